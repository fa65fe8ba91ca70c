import Derived.Test.YtlnldipiofddkaaAg2
namespace Go.Proofs.Ytlnldipiofddkaa
open Go.RowKit

/-- A READER AND A WRITER SIDE BY SIDE, in blocks of the call's own. -/
structure RW (w0 w : World) (b h c : Nat) (v : Value) (xs ws : List Nat) (a f : Nat) : Prop where
  rd : Rd w b h xs a f
  wr : Wr w c v ws
  bc : b ≠ c
  hc : h ≠ c
  hl : h < w.heap.size
  row : ∀ g, v.ownBlock = some g → g ≠ b ∧ g ≠ h ∧ w0.heap.size ≤ g
  lb : w0.heap.size ≤ b
  lh : w0.heap.size ≤ h
  lc : w0.heap.size ≤ c
  below : Below w0.heap.size w0 w

theorem RW.read {w0 w w' : World} {b h c : Nat} {v : Value} {xs ws : List Nat} {a f a' f' : Nat} (r : RW w0 w b h c v xs ws a f) (hr : Rd w' b h xs a' f') (hb : But b w w') : RW w0 w' b h c v xs ws a' f' :=
  ⟨hr, r.wr.kept (hb.block c r.wr.lt (fun e => r.bc e.symm)) (fun g e => hb.block g (r.wr.rowLt g e) (r.row g e).1), r.bc, r.hc, Nat.lt_of_lt_of_le r.hl hb.size, r.row, r.lb, r.lh, r.lc, hb.below r.below r.lb r.below.size⟩

theorem RW.on {w0 w w' : World} {b h c : Nat} {v : Value} {xs ws : List Nat} {a f : Nat} (r : RW w0 w b h c v xs ws a f) (hb : Below w.heap.size w w') : RW w0 w' b h c v xs ws a f :=
  ⟨r.rd.below hb, r.wr.below hb, r.bc, r.hc, Nat.lt_of_lt_of_le r.hl hb.size, r.row, r.lb, r.lh, r.lc, r.below.trans (hb.mono r.below.size)⟩

theorem RW.write {w0 w w' : World} {b h c : Nat} {v : Value} {xs ws new : List Nat} {a f : Nat} (r : RW w0 w b h c v xs ws a f) (hl : Laid w w' c v ws new) : ∃ v', RW w0 w' b h c v' xs (ws ++ new) a f := by
  obtain ⟨v', h1, h2, h3⟩ := hl
  have hbk : w'.heap[b]? = w.heap[b]? := h3.block b r.rd.lt r.bc (fun e => (r.row b e.symm).1 rfl)
  have hhk : w'.heap[h]? = w.heap[h]? := h3.block h r.hl r.hc (fun e => (r.row h e.symm).2.1 rfl)
  have hd : Bytes w' (some ⟨h, 0, none⟩) xs := by
    refine ⟨r.rd.held.small, ?_⟩
    rcases r.rd.held.lie with h0 | ⟨g, o, e, hg, hc⟩
    · exact Or.inl h0
    · cases e
      exact Or.inr ⟨h, 0, rfl, Nat.lt_of_lt_of_le hg h3.size, fun j hj => by rw [World.cell?_of_block (w := w) hhk]; exact hc j hj⟩
  refine ⟨v', ⟨hbk.trans r.rd.blk, hd, r.rd.len, r.rd.le⟩, h1, r.bc, r.hc, Nat.lt_of_lt_of_le r.hl h3.size, ?_, r.lb, r.lh, r.lc, h3.below r.below r.lc r.below.size (fun g e => (r.row g e).2.2)⟩
  intro g e
  rcases h2 with h2 | ⟨g', h2, hg'⟩
  · exact r.row g (h2.symm.trans e)
  · rw [h2] at e
    cases e
    have := r.rd.lt
    have := r.hl
    have := r.below.size
    omega

/-- Fresh bytes lie apart from the Writer. -/
theorem RW.apart {w0 w w1 : World} {b h c : Nat} {v : Value} {xs ws : List Nat} {a f : Nat} (r : RW w0 w b h c v xs ws a f) {sp : Option Addr} {ys : List Nat} (hm : Mine w.heap.size w1 sp ys) : ∀ g o, sp = some ⟨g, o, none⟩ → 0 < ys.length → g ≠ c ∧ some g ≠ v.ownBlock := by
  intro g o e _
  rcases hm with ⟨e', _⟩ | ⟨g', e', hg', _⟩
  · rw [e'] at e; cases e
  · rw [e'] at e
    cases e
    refine ⟨?_, fun e2 => ?_⟩
    · have := r.wr.lt; omega
    · have := r.wr.rowLt g e2.symm; omega

/-- What reading an item and writing it anew leaves. -/
def Again (w0 w' : World) (b h c : Nat) (xs ws : List Nat) (x : It × Nat × Nat) (new : List Nat) (e : Ending) : Prop :=
  e = .returned (.tuple #[]) ∧ ∃ v', RW w0 w' b h c v' xs (ws ++ new) x.2.1 x.2.2

theorem num_small8 (xs : List Nat) (h : ∀ x ∈ xs, x < 256) (k : Int) (bound a f : Nat) (hk : width k = 8 ∧ k ≠ 3 ∧ k ≠ 4 ∧ k ≠ 5) : (rNext k bound xs a f).1.num < 18446744073709551616 := by
  unfold rNext
  split
  · simp [no]
  · split
    · simp [no]
    · simp only [pFind, if_neg hk.2.1, if_neg hk.2.2.1, if_neg hk.2.2.2, hk.1, pFixed]
      by_cases h2 : (xs.drop a).length < 8
      · rw [if_pos h2]; simp [no]
      · rw [if_neg h2]
        have := be_lt ((xs.drop a).take 8) (fun x hx => h x (List.mem_of_mem_drop (List.mem_of_mem_take hx)))
        have h3 : ((xs.drop a).take 8).length ≤ 8 := by simp; omega
        have h4 := Nat.pow_le_pow_right (n := 256) (by omega) h3
        simp only; omega
theorem num_smallv (xs : List Nat) (n a f : Nat) (hn : n < 18446744073709551616) : (rNext 3 n xs a f).1.num < 18446744073709551616 := by
  unfold rNext
  split
  · simp [no]
  · split
    · simp [no]
    · rename_i h1
      simp only [pFind, if_true] at h1 ⊢
      have := (pv_size n (xs.drop a) 0 0 (by omega)).2.2.1
      omega

set_option maxRecDepth 100000 in
set_option maxHeartbeats 2000000 in
theorem again_any (w0 w : World) (b h c : Nat) (v : Value) (xs ws : List Nat) (a f : Nat) (o : Op1) (hr : RW w0 w b h c v xs ws a f) (hm : o.m ≤ 9223372036854775807) (hn : o.n < 18446744073709551616) (hws : ws.length + (xs.length - a) + 20 ≤ 140737488355328) :
    Calls Try.prog 38 #[.pointer (some ⟨b, 0, none⟩), .pointer (some ⟨c, 0, none⟩), .agg #[.int .i64 o.kind, .int .i64 o.which, .int .i64 o.m, .int .u64 (o.n : Int), .slice o.bp o.bl o.bc]] w fun e w' => Again w0 w' b h c xs ws (agStep o xs a f).1 (agStep o xs a f).2 e := by
  obtain ⟨kind, which, m, n, bp, bl, bc, bs⟩ := o
  simp only at hm hn
  simp only [agStep]
  have HR := hide (hr.on ((Below.refl _ _).alloc (Nat.le_refl _) (.cells #[.int .i64 kind, .int .i64 which, .int .i64 m, .int .u64 (n : Int), .slice bp bl bc] 33)))
  have hsm := hr.rd.held.small
  have hxl : xs.length ≤ 140737488355328 := hr.rd.len
  have HSm := hide hsm
  clear hr hsm
  by_cases k1 : (kind == 1) = true
  · have e := beq_iff_eq.1 k1; subst e
    have C := u8_any _ b h xs a f HR.out.rd
    have hs := num_small1 xs HSm.out 0 0 a f (by simp [width])
    simp only [if_true]
    generalize rNext 0 0 xs a f = x at *
    have HC := hide C; clear C
    go_enter Try.func38, Try.ntmps38
    go_wp2_with fail
    refine HC.out.mono ?_
    rintro e w1 ⟨rfl, hr1, hb1⟩
    have HR1 := hide (HR.out.read hr1 hb1); clear hr1 hb1
    go_wp2_with fail
    refine (wu8_any _ c v ws x.1.num HR1.out.wr hs (by omega)).mono ?_
    rintro e w2 ⟨rfl, hl2⟩
    have HR2 := hide (HR1.out.write hl2); clear hl2
    go_wp2
    go_end0
    exact ⟨rfl, HR2.out⟩
  simp only [Bool.not_eq_true] at k1
  by_cases k2 : (kind == 2) = true
  · have e := beq_iff_eq.1 k2; subst e
    have C := u32_any _ b h xs a f HR.out.rd
    have hs := num_small4 xs HSm.out 1 0 a f (by simp [width])
    simp only [show ¬ (2 : Int) = 1 by omega, if_true, if_false]
    generalize rNext 1 0 xs a f = x at *
    have HC := hide C; clear C
    go_enter Try.func38, Try.ntmps38
    go_wp2_with fail
    refine HC.out.mono ?_
    rintro e w1 ⟨rfl, hr1, hb1⟩
    have HR1 := hide (HR.out.read hr1 hb1); clear hr1 hb1
    go_wp2_with fail
    refine (wu32_any _ c v ws x.1.num HR1.out.wr hs (by omega)).mono ?_
    rintro e w2 ⟨rfl, hl2⟩
    have HR2 := hide (HR1.out.write hl2); clear hl2
    go_wp2
    go_end0
    exact ⟨rfl, HR2.out⟩
  simp only [Bool.not_eq_true] at k2
  by_cases k3 : (kind == 3) = true
  · have e := beq_iff_eq.1 k3; subst e
    have C := u64_any _ b h xs a f HR.out.rd
    have hs := num_small8 xs HSm.out 2 0 a f (by simp [width])
    simp only [show ¬ (3 : Int) = 1 by omega, show ¬ (3 : Int) = 2 by omega, if_true, if_false]
    generalize rNext 2 0 xs a f = x at *
    have HC := hide C; clear C
    go_enter Try.func38, Try.ntmps38
    go_wp2_with fail
    refine HC.out.mono ?_
    rintro e w1 ⟨rfl, hr1, hb1⟩
    have HR1 := hide (HR.out.read hr1 hb1); clear hr1 hb1
    go_wp2_with fail
    refine (wu64_any _ c v ws x.1.num HR1.out.wr hs (by omega)).mono ?_
    rintro e w2 ⟨rfl, hl2⟩
    have HR2 := hide (HR1.out.write hl2); clear hl2
    go_wp2
    go_end0
    exact ⟨rfl, HR2.out⟩
  simp only [Bool.not_eq_true] at k3
  by_cases k4 : (kind == 4) = true
  · have e := beq_iff_eq.1 k4; subst e
    have C := var_read _ b h xs a f n hn HR.out.rd
    have hs := num_smallv xs n a f hn
    simp only [show ¬ (4 : Int) = 1 by omega, show ¬ (4 : Int) = 2 by omega, show ¬ (4 : Int) = 3 by omega, if_true, if_false]
    generalize rNext 3 n xs a f = x at *
    have HC := hide C; clear C
    go_enter Try.func38, Try.ntmps38
    go_wp2_with fail
    refine HC.out.mono ?_
    rintro e w1 ⟨rfl, hr1, hb1⟩
    have HR1 := hide (HR.out.read hr1 hb1); clear hr1 hb1
    go_wp2_with fail
    refine (var_lays _ c v ws x.1.num HR1.out.wr hs (by omega)).mono ?_
    rintro e w2 ⟨rfl, hl2⟩
    have HR2 := hide (HR1.out.write hl2); clear hl2
    go_wp2
    go_end0
    exact ⟨rfl, HR2.out⟩
  simp only [Bool.not_eq_true] at k4
  by_cases k5 : (kind == 5) = true
  · have e := beq_iff_eq.1 k5; subst e
    have C := text_any _ b h xs a f m hm HR.out.rd
    have hgl : (got xs a (rText m xs a f)).length ≤ xs.length - a := by unfold got; rw [List.length_take, List.length_drop, List.length_drop]; omega
    simp only [show ¬ (5 : Int) = 1 by omega, show ¬ (5 : Int) = 2 by omega, show ¬ (5 : Int) = 3 by omega, show ¬ (5 : Int) = 4 by omega, if_true, if_false]
    generalize got xs a (rText m xs a f) = ys at *
    generalize rText m xs a f = x at *
    have HC := hide C; clear C
    go_enter Try.func38, Try.ntmps38
    go_wp2_with fail
    refine HC.out.mono ?_
    rintro e w1 ⟨sp, rfl, hmine, hsm, hr1, hb1⟩
    have HR1 := hide (HR.out.read hr1 hb1); clear hr1 hb1
    have HY := hide (hmine.bytes hsm)
    have HAp := hide (HR.out.apart hmine)
    clear hmine hsm
    go_wp2_with fail
    refine (wbytes_any _ c v ws sp ys.length ys.length ys HR1.out.wr rfl HY.out (by omega) HAp.out).mono ?_
    rintro e w2 ⟨rfl, hl2⟩
    have HR2 := hide (HR1.out.write hl2); clear hl2
    go_wp2
    go_end0
    exact ⟨rfl, HR2.out⟩
  simp only [Bool.not_eq_true] at k5
  by_cases k6 : (kind == 6) = true
  · have e := beq_iff_eq.1 k6; subst e
    have hi0 : 0 ≤ intoP m 20 ∧ intoP m 20 < 20 := by unfold intoP; omega
    have C := raw_read _ b h xs a f (intoP m 20) (by omega) HR.out.rd
    have hgl : (got xs a (rRaw (intoP m 20) xs a f)).length ≤ xs.length - a := by unfold got; rw [List.length_take, List.length_drop, List.length_drop]; omega
    simp only [show ¬ (6 : Int) = 1 by omega, show ¬ (6 : Int) = 2 by omega, show ¬ (6 : Int) = 3 by omega, show ¬ (6 : Int) = 4 by omega, show ¬ (6 : Int) = 5 by omega, if_true, if_false]
    generalize got xs a (rRaw (intoP m 20) xs a f) = ys at *
    generalize rRaw (intoP m 20) xs a f = x at *
    have HC := hide C; clear C
    have HI := hide (fun w => into_20 w m)
    generalize intoP m 20 = im at *
    go_enter Try.func38, Try.ntmps38
    go_wp2_with fail
    refine (HI.out _).mono ?_
    rintro e w1 ⟨rfl, rfl⟩
    go_wp2_with fail
    refine HC.out.mono ?_
    rintro e w1 ⟨sp, rfl, hmine, hsm, hr1, hb1⟩
    have HR1 := hide (HR.out.read hr1 hb1); clear hr1 hb1
    have HY := hide (hmine.bytes hsm)
    clear hmine hsm
    go_wp2_with fail
    refine (wraw_any _ c v ws sp ys.length ys.length ys HR1.out.wr rfl HY.out (by omega)).mono ?_
    rintro e w2 ⟨rfl, hl2⟩
    have HR2 := hide (HR1.out.write hl2); clear hl2
    go_wp2
    go_end0
    exact ⟨rfl, HR2.out⟩
  simp only [Bool.not_eq_true] at k6
  · have n1 : ¬ kind = 1 := by simpa using k1
    have n2 : ¬ kind = 2 := by simpa using k2
    have n3 : ¬ kind = 3 := by simpa using k3
    have n4 : ¬ kind = 4 := by simpa using k4
    have n5 : ¬ kind = 5 := by simpa using k5
    have n6 : ¬ kind = 6 := by simpa using k6
    simp only [if_neg n1, if_neg n2, if_neg n3, if_neg n4, if_neg n5, if_neg n6]
    clear n1 n2 n3 n4 n5 n6
    go_enter Try.func38, Try.ntmps38
    go_wp2
    go_end0
    exact ⟨rfl, v, by simpa using HR.out⟩

end Go.Proofs.Ytlnldipiofddkaa
