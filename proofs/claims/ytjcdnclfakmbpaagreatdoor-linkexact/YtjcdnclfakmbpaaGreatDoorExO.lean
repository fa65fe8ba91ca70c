import Derived.Test.YtjcdnclfakmbpaaGreatDoorExK
import Derived.Test.YtjcdnclfakmbpaaGreatDoorExI
import Derived.Test.YtjcdnclfakmbpaaGreatDoorExM
namespace Go.Proofs.YtjcdnclfakmbpaaGreatDoor
open Go.RowKit
theorem livesW0 (w0 w : World) (K : Knd) (wb : Nat) (Y : Pw.Wc) (A D B E : Lk) (es : List Fe) (xn bn st n : Nat) (h : Wm w0 w K wb Y A D B E es xn bn st) (hw : 0 ≤ Y.w0 ∧ 0 ≤ Y.w1) (hc : (1 ≤ Y.c0 ∧ Y.c0 ≤ 64) ∧ (1 ≤ Y.c1 ∧ Y.c1 ≤ 64)) :
    Calls Tryz.prog 11 #[.pointer (some ⟨wb, 0, none⟩), .int .i64 0, .int .u64 (n : Int)] w fun e w' => e = .returned (.bool true) ∧ ∃ bl bk K', Wm w0 w' K' wb { Y with l0 := bl, k0 := bk } (Lk.new Y.m0 Y.m1 n Y.w0 Y.c0) (Lk.new Y.m0 Y.m1 n Y.w0 Y.c0) B E es xn bn st := by
  obtain ⟨O, I, hblk, hkb⟩ := h.blk
  obtain ⟨W0, hW0⟩ : ∃ W0 : Nat, Y.w0 = (W0 : Int) := ⟨Y.w0.toNat, by omega⟩
  obtain ⟨W1, hW1⟩ : ∃ W1 : Nat, Y.w1 = (W1 : Int) := ⟨Y.w1.toNat, by omega⟩
  obtain ⟨M0, hM0⟩ : ∃ M0 : Nat, Y.c0 = (M0 : Int) := ⟨Y.c0.toNat, by omega⟩
  obtain ⟨M1, hM1⟩ : ∃ M1 : Nat, Y.c1 = (M1 : Int) := ⟨Y.c1.toNat, by omega⟩
  have hb2 := hblk
  unfold Pw.wkC at hb2
  rw [hW0, hW1, hM0, hM1] at hb2
  refine (livesR0 w wb n W0 W1 M0 M1 Y.m0 Y.m1 _ _ _ _ _ _ _ _ _ _ hb2 (by omega) (by omega)).mono ?_
  rintro e w' ⟨he, bl, bk, h1, h2, hl, hd, hb, hbt⟩
  rw [← hW0, ← hM0] at hl
  have hMt : M0 = Y.c0.toNat := by rw [hM0]; rfl
  rw [← hW0, ← hM0, hMt] at hd
  obtain ⟨K', hK'⟩ : ∃ K' : Knd, K' = fun g => if g < w.heap.size then K g else if g = bl then (1, 0) else if g = bk then (3, 0) else (9, 9) := ⟨_, rfl⟩
  have k1 : ∀ g, g < w.heap.size → K' g = K g := fun g hg => by rw [hK']; simp [hg]
  have k2 : K' bl = (1, 0) := by rw [hK']; simp; omega
  have k3 : K' bk = (3, 0) := by
    have g1 : ¬ bk < w.heap.size := by omega
    have g2 : bk ≠ bl := by omega
    rw [hK']; simp [g1, g2]
  have m : Kp (fun q => q = (8, 0)) K K' w w' := ⟨hbt.os, hbt.tape, hbt.output, hbt.size, k1, fun x hx hn => hbt.block x hx (fun e => hn (by rw [e]; exact hkb))⟩
  have hb3 : w'.heap[wb]? = some (.cells (Pw.wkC { Y with l0 := bl, k0 := bk } O I) 48 (0, 0)) := by
    rw [hb, ← hW0, ← hW1, ← hM0, ← hM1]; rfl
  have hpl : Pw.Plc { Y with l0 := bl, k0 := bk } w' K' wb := by
    rcases h.plc with ⟨q1, q2⟩ | ⟨O2, I2, X, no, mm, os, ys, q⟩
    · rw [hblk] at q1
      have e1 : O = .slice none 0 0 := by have := congrArg (fun o => match o with | some (Obj.cells c _ _) => c.getD 13 undef | _ => undef) q1; simpa [Pw.wkC] using this
      have e2 : I = .slice none 0 0 := by have := congrArg (fun o => match o with | some (Obj.cells c _ _) => c.getD 14 undef | _ => undef) q1; simpa [Pw.wkC] using this
      rw [e1, e2] at hb3
      exact Or.inl ⟨hb3, (m.same wb (C.lt_of_block hblk)).trans hkb⟩
    · have q1 := q.blk
      rw [hblk] at q1
      have e1 : O = O2 := by have := congrArg (fun o => match o with | some (Obj.cells c _ _) => c.getD 13 undef | _ => undef) q1; simpa [Pw.wkC] using this
      have e2 : I = I2 := by have := congrArg (fun o => match o with | some (Obj.cells c _ _) => c.getD 14 undef | _ => undef) q1; simpa [Pw.wkC] using this
      rw [e1, e2] at hb3
      exact Or.inr ⟨O2, I2, X, no, mm, os, ys, ⟨hb3, (m.same wb (C.lt_of_block hblk)).trans hkb, q.o.kept m (by simp), q.i.kept m (by simp), q.x.kept m (by simp)⟩⟩
  have hdk : Dk w' K' (3, 0) (4, 0) bk (Lk.new Y.m0 Y.m1 n Y.w0 Y.c0) (.slice none 0 0) Y.c0.toNat 0 := by
    refine ⟨hd, k3, ⟨[], ⟨rfl, Or.inl ⟨rfl, rfl⟩⟩, fun j x hx => by simp [Lk.new] at hx⟩, fun g hg => by simp [Value.ownBlock] at hg, ⟨fun j x hx => by simp [Lk.new] at hx, Nat.zero_le _⟩, ?_⟩
    have hif : 1 ≤ Y.c0 ∧ Y.c0 ≤ 64 := hc.1
    refine ⟨?_, by omega, by omega, rfl, ?_⟩
    · show (if 1 ≤ Y.c0 ∧ Y.c0 ≤ 64 then some Y.c0.toNat else none) = _
      rw [if_pos hif]
    · show (if 1 ≤ Y.c0 ∧ Y.c0 ≤ 64 then 1 else 0) = _
      rw [if_pos hif]; rfl
  refine ⟨he, bl, bk, K', ⟨m.below h.bel (fun x hx => by rw [h.kz x hx]; simp), fun x hx => (m.same x (Nat.lt_of_lt_of_le hx h.bel.size)).trans (h.kz x hx), h.tab, hpl, ?_, ?_, ?_, ?_, h.sent.kept m (by simp), fun x hx => (h.bod x hx).kp m (by simp), ?_, ?_, h.bl⟩⟩
  · exact ⟨_, lx_new hl k2⟩
  · obtain ⟨rv, q⟩ := h.lb; exact ⟨rv, q.kp m (by simp)⟩
  · exact ⟨_, 0, hdk, Nat.zero_le _⟩
  · obtain ⟨rv, t, q, r⟩ := h.kb; exact ⟨rv, t, q.kp m (by simp) (by simp), r⟩
  · obtain ⟨G, V, xs, q, r⟩ := h.late; exact ⟨G, V, xs, q.keep m (by simp) (fun j _ => by simp), r⟩
  · obtain ⟨X, L, M, tn, us, ks, rs, q, r⟩ := h.book
    exact ⟨X, L, M, tn, us, ks, rs, q.keep m (by simp) (by simp) (by simp) (by simp) (fun x e => by rw [e]; simp) (by simp), r⟩
theorem livesW1 (w0 w : World) (K : Knd) (wb : Nat) (Y : Pw.Wc) (A D B E : Lk) (es : List Fe) (xn bn st n : Nat) (h : Wm w0 w K wb Y A D B E es xn bn st) (hw : 0 ≤ Y.w0 ∧ 0 ≤ Y.w1) (hc : (1 ≤ Y.c0 ∧ Y.c0 ≤ 64) ∧ (1 ≤ Y.c1 ∧ Y.c1 ≤ 64)) :
    Calls Tryz.prog 11 #[.pointer (some ⟨wb, 0, none⟩), .int .i64 1, .int .u64 (n : Int)] w fun e w' => e = .returned (.bool true) ∧ ∃ bl bk K', Wm w0 w' K' wb { Y with l1 := bl, k1 := bk } A D (Lk.new Y.m1 Y.m0 n Y.w1 Y.c1) (Lk.new Y.m1 Y.m0 n Y.w1 Y.c1) es xn bn st := by
  obtain ⟨O, I, hblk, hkb⟩ := h.blk
  obtain ⟨W0, hW0⟩ : ∃ W0 : Nat, Y.w0 = (W0 : Int) := ⟨Y.w0.toNat, by omega⟩
  obtain ⟨W1, hW1⟩ : ∃ W1 : Nat, Y.w1 = (W1 : Int) := ⟨Y.w1.toNat, by omega⟩
  obtain ⟨M0, hM0⟩ : ∃ M0 : Nat, Y.c0 = (M0 : Int) := ⟨Y.c0.toNat, by omega⟩
  obtain ⟨M1, hM1⟩ : ∃ M1 : Nat, Y.c1 = (M1 : Int) := ⟨Y.c1.toNat, by omega⟩
  have hb2 := hblk
  unfold Pw.wkC at hb2
  rw [hW0, hW1, hM0, hM1] at hb2
  refine (livesR1 w wb n W0 W1 M0 M1 Y.m0 Y.m1 _ _ _ _ _ _ _ _ _ _ hb2 (by omega) (by omega)).mono ?_
  rintro e w' ⟨he, bl, bk, h1, h2, hl, hd, hb, hbt⟩
  rw [← hW1, ← hM1] at hl
  have hMt : M1 = Y.c1.toNat := by rw [hM1]; rfl
  rw [← hW1, ← hM1, hMt] at hd
  obtain ⟨K', hK'⟩ : ∃ K' : Knd, K' = fun g => if g < w.heap.size then K g else if g = bl then (1, 1) else if g = bk then (3, 1) else (9, 9) := ⟨_, rfl⟩
  have k1 : ∀ g, g < w.heap.size → K' g = K g := fun g hg => by rw [hK']; simp [hg]
  have k2 : K' bl = (1, 1) := by rw [hK']; simp; omega
  have k3 : K' bk = (3, 1) := by
    have g1 : ¬ bk < w.heap.size := by omega
    have g2 : bk ≠ bl := by omega
    rw [hK']; simp [g1, g2]
  have m : Kp (fun q => q = (8, 0)) K K' w w' := ⟨hbt.os, hbt.tape, hbt.output, hbt.size, k1, fun x hx hn => hbt.block x hx (fun e => hn (by rw [e]; exact hkb))⟩
  have hb3 : w'.heap[wb]? = some (.cells (Pw.wkC { Y with l1 := bl, k1 := bk } O I) 48 (0, 0)) := by
    rw [hb, ← hW0, ← hW1, ← hM0, ← hM1]; rfl
  have hpl : Pw.Plc { Y with l1 := bl, k1 := bk } w' K' wb := by
    rcases h.plc with ⟨q1, q2⟩ | ⟨O2, I2, X, no, mm, os, ys, q⟩
    · rw [hblk] at q1
      have e1 : O = .slice none 0 0 := by have := congrArg (fun o => match o with | some (Obj.cells c _ _) => c.getD 13 undef | _ => undef) q1; simpa [Pw.wkC] using this
      have e2 : I = .slice none 0 0 := by have := congrArg (fun o => match o with | some (Obj.cells c _ _) => c.getD 14 undef | _ => undef) q1; simpa [Pw.wkC] using this
      rw [e1, e2] at hb3
      exact Or.inl ⟨hb3, (m.same wb (C.lt_of_block hblk)).trans hkb⟩
    · have q1 := q.blk
      rw [hblk] at q1
      have e1 : O = O2 := by have := congrArg (fun o => match o with | some (Obj.cells c _ _) => c.getD 13 undef | _ => undef) q1; simpa [Pw.wkC] using this
      have e2 : I = I2 := by have := congrArg (fun o => match o with | some (Obj.cells c _ _) => c.getD 14 undef | _ => undef) q1; simpa [Pw.wkC] using this
      rw [e1, e2] at hb3
      exact Or.inr ⟨O2, I2, X, no, mm, os, ys, ⟨hb3, (m.same wb (C.lt_of_block hblk)).trans hkb, q.o.kept m (by simp), q.i.kept m (by simp), q.x.kept m (by simp)⟩⟩
  have hdk : Dk w' K' (3, 1) (4, 1) bk (Lk.new Y.m1 Y.m0 n Y.w1 Y.c1) (.slice none 0 0) Y.c1.toNat 0 := by
    refine ⟨hd, k3, ⟨[], ⟨rfl, Or.inl ⟨rfl, rfl⟩⟩, fun j x hx => by simp [Lk.new] at hx⟩, fun g hg => by simp [Value.ownBlock] at hg, ⟨fun j x hx => by simp [Lk.new] at hx, Nat.zero_le _⟩, ?_⟩
    have hif : 1 ≤ Y.c1 ∧ Y.c1 ≤ 64 := hc.2
    refine ⟨?_, by omega, by omega, rfl, ?_⟩
    · show (if 1 ≤ Y.c1 ∧ Y.c1 ≤ 64 then some Y.c1.toNat else none) = _
      rw [if_pos hif]
    · show (if 1 ≤ Y.c1 ∧ Y.c1 ≤ 64 then 1 else 0) = _
      rw [if_pos hif]; rfl
  refine ⟨he, bl, bk, K', ⟨m.below h.bel (fun x hx => by rw [h.kz x hx]; simp), fun x hx => (m.same x (Nat.lt_of_lt_of_le hx h.bel.size)).trans (h.kz x hx), h.tab, hpl, ?_, ?_, ?_, ?_, h.sent.kept m (by simp), fun x hx => (h.bod x hx).kp m (by simp), ?_, ?_, h.bl⟩⟩
  · obtain ⟨rv, q⟩ := h.la; exact ⟨rv, q.kp m (by simp)⟩
  · exact ⟨_, lx_new hl k2⟩
  · obtain ⟨rv, t, q, r⟩ := h.ka; exact ⟨rv, t, q.kp m (by simp) (by simp), r⟩
  · exact ⟨_, 0, hdk, Nat.zero_le _⟩
  · obtain ⟨G, V, xs, q, r⟩ := h.late; exact ⟨G, V, xs, q.keep m (by simp) (fun j _ => by simp), r⟩
  · obtain ⟨X, L, M, tn, us, ks, rs, q, r⟩ := h.book
    exact ⟨X, L, M, tn, us, ks, rs, q.keep m (by simp) (by simp) (by simp) (by simp) (fun x e => by rw [e]; simp) (by simp), r⟩
end Go.Proofs.YtjcdnclfakmbpaaGreatDoor
namespace Go.Proofs.YtjcdnclfakmbpaaGreatDoor
open Go.RowKit
theorem rn_le {L : Lk} {i j : Nat} (h : Rn L i) (hij : i ≤ j) : Rn L j := ⟨Nat.le_trans h.row hij, Nat.le_trans h.num hij, Nat.le_trans h.hand hij, h.pok, h.win⟩
structure Wd (Y : Pw.Wc) (A B : Lk) (es : List Fe) (xn bn st : Nat) : Prop where
  ra : Rn A st
  rb : Rn B st
  wa : A.window ≤ 16
  wb : B.window ≤ 16
  tn : Y.turn ≤ st
  xl : xn ≤ st
  bl : bn ≤ 18 * st
  el : es.length ≤ 17 * st
  y0 : 0 ≤ Y.w0 ∧ Y.w0 ≤ 16
  y1 : 0 ≤ Y.w1 ∧ Y.w1 ≤ 16
  c0 : 1 ≤ Y.c0 ∧ Y.c0 ≤ 64
  c1 : 1 ≤ Y.c1 ∧ Y.c1 ≤ 64
theorem Wd.up {Y : Pw.Wc} {A B : Lk} {es : List Fe} {xn bn st : Nat} (h : Wd Y A B es xn bn st) : Wd Y A B es xn bn (st + 1) := ⟨h.ra.up, h.rb.up, h.wa, h.wb, Nat.le_succ_of_le h.tn, Nat.le_succ_of_le h.xl, by have := h.bl; omega, by have := h.el; omega, h.y0, h.y1, h.c0, h.c1⟩
def Ws (w0 w : World) (wb st : Nat) : Prop := ∃ K Y A B es xn bn, Wm w0 w K wb Y A A B B es xn bn st ∧ Wd Y A B es xn bn st
theorem sblk12 {w : World} {b : Nat} {x0 x1 x2 x3 x4 x5 x6 x7 x8 x9 x10 x11 : Value} {t : TypeId} (h : w.heap[b]? = some (.cells #[x0, x1, x2, x3, x4, x5, x6, x7, x8, x9, x10, x11] t (0, 0))) : w.cell? ⟨b, 0, none⟩ = some x0 ∧ w.cell? ⟨b, 1, none⟩ = some x1 ∧ w.cell? ⟨b, 2, none⟩ = some x2 ∧ w.cell? ⟨b, 3, none⟩ = some x3 ∧ w.cell? ⟨b, 4, none⟩ = some x4 ∧ w.cell? ⟨b, 5, none⟩ = some x5 ∧ w.cell? ⟨b, 6, none⟩ = some x6 ∧ w.cell? ⟨b, 7, none⟩ = some x7 ∧ w.cell? ⟨b, 8, none⟩ = some x8 ∧ w.cell? ⟨b, 9, none⟩ = some x9 ∧ w.cell? ⟨b, 10, none⟩ = some x10 ∧ w.cell? ⟨b, 11, none⟩ = some x11 := by
  refine ⟨?_, ?_, ?_, ?_, ?_, ?_, ?_, ?_, ?_, ?_, ?_, ?_⟩ <;> simp [World.cell?, h]
theorem and1 (z : Int) : bits .and .i64 z 1 = 0 ∨ bits .and .i64 z 1 = 1 := by
  have h : bits .and .i64 z 1 = (((BitVec.ofInt 64 z).toNat % 2 : Nat) : Int) := by
    show IntKind.i64.wrap ((BitVec.ofInt 64 z &&& BitVec.ofInt 64 1).toNat : Int) = _
    have h1 : (BitVec.ofInt 64 (1 : Int)).toNat = 2 ^ 1 - 1 := by decide
    rw [BitVec.toNat_and, h1, Nat.and_two_pow_sub_one_eq_mod, IntKind.wrap_i64]
    omega
  rw [h]
  omega
set_option maxRecDepth 100000 in
theorem num_any (w : World) (z : Int) : Calls Tryz.prog 22 #[.int .i64 z] w fun e w' => e = .returned (.int .i64 z) ∧ w' = w := by
  go_enter Tryz.func22, Tryz.ntmps22
  go_wp2
  go_ret
  exact ⟨rfl, rfl⟩
set_option maxRecDepth 100000 in
theorem lifeN_any (w : World) (n : Nat) : Calls Tryz.prog 12 #[.int .u64 (n : Int)] w fun e w' => e = .returned (.int .u64 ((1 + n % 1099511627776 : Nat) : Int)) ∧ w' = w := by
  have e1 : (1 : Int) + (n : Int) % 1099511627776 = ((1 + n % 1099511627776 : Nat) : Int) := by omega
  have e2 : 1 + n % 1099511627776 ≤ 1099511627776 := by omega
  have e3 : (n : Int) % 1099511627776 = ((n % 1099511627776 : Nat) : Int) := by omega
  generalize 1 + n % 1099511627776 = x at *
  generalize n % 1099511627776 = y at *
  go_enter Tryz.func12, Tryz.ntmps12
  go_wp2
  go_ret
  exact ⟨by show Ending.returned (.int .u64 (1 + (y : Int))) = _; rw [show (1 : Int) + (y : Int) = (x : Int) by omega], rfl⟩
end Go.Proofs.YtjcdnclfakmbpaaGreatDoor
namespace Go.Proofs.YtjcdnclfakmbpaaGreatDoor
open Go.RowKit
set_option maxRecDepth 100000 in
set_option maxHeartbeats 8000000 in
set_option linter.unusedVariables false in
set_option linter.unusedSimpArgs false in
theorem step_tick0 (w0 w : World) (K : Knd) (wb : Nat) (Y : Pw.Wc) (A B : Lk) (es : List Fe) (xn bn st : Nat) (h : Wm w0 w K wb Y A A B B es xn bn st) (hd : Wd Y A B es xn bn st) (hst : st ≤ 700) (on pick : Int) (bp fp : Option Addr) (nb bc nf fc mine yours seq ack olife : Nat) (f0 f1 : Int) (hon : bits .and .i64 on 1 = 0) :
    Calls Tryz.prog 6 #[.pointer (some ⟨wb, 0, none⟩), .agg #[.int .i64 5, .int .i64 on, .slice bp nb bc, .int .i64 f0, .int .i64 f1, .int .u64 (mine : Int), .int .u64 (yours : Int), .int .u64 (seq : Int), .int .u64 (ack : Int), .slice fp nf fc, .int .i64 pick, .int .u64 (olife : Int)]] w fun e w' => e = .returned (.bool true) ∧ Ws w0 w' wb (st + 1) := by
  obtain ⟨w1, hw1⟩ : ∃ w1, w.alloc (.cells #[.int .i64 5, .int .i64 on, .slice bp nb bc, .int .i64 f0, .int .i64 f1, .int .u64 (mine : Int), .int .u64 (yours : Int), .int .u64 (seq : Int), .int .u64 (ack : Int), .slice fp nf fc, .int .i64 pick, .int .u64 (olife : Int)] 35) = w1 := ⟨_, rfl⟩
  have hb1 : Below w.heap.size w w1 := by rw [← hw1]; exact (Below.refl _ _).alloc (Nat.le_refl _) _
  have hk1 : w1.heap[w.heap.size]? = some (.cells #[.int .i64 5, .int .i64 on, .slice bp nb bc, .int .i64 f0, .int .i64 f1, .int .u64 (mine : Int), .int .u64 (yours : Int), .int .u64 (seq : Int), .int .u64 (ack : Int), .slice fp nf fc, .int .i64 pick, .int .u64 (olife : Int)] 35 (0, 0)) := by rw [← hw1]; exact heap_alloc_new _ _
  have mb1 : Kp (fun _ => False) K (ext K w.heap.size (9, 9)) w w1 := kp_below hb1 _ _ _
  have hBx : Bq w1 (ext K w.heap.size (9, 9)) w.heap.size #[.int .i64 5, .int .i64 on, .slice bp nb bc, .int .i64 f0, .int .i64 f1, .int .u64 (mine : Int), .int .u64 (yours : Int), .int .u64 (seq : Int), .int .u64 (ack : Int), .slice fp nf fc, .int .i64 pick, .int .u64 (olife : Int)] 35 := ⟨hk1, ext_new _ _ (Nat.le_refl _)⟩
  obtain ⟨K1, hK1⟩ : ∃ K1, ext K w.heap.size (9, 9) = K1 := ⟨_, rfl⟩
  rw [hK1] at mb1 hBx
  have HP1 := hide (h.k9 mb1 (fun _ e => e.elim))
  have HM1 := hide mb1
  have HBx := hide hBx
  obtain ⟨bx, hbx⟩ : ∃ bx, w.heap.size = bx := ⟨_, rfl⟩
  rw [hbx] at HBx hk1
  obtain ⟨x0, x1, x2, x3, x4, x5, x6, x7, x8, x9, x10, x11⟩ := sblk12 hk1
  have hob := C.lt_of_block hk1
  have HW1 := hide hw1
  have HD := hide hd
  have hBX := hide hbx
  obtain ⟨O, I, hwb, hkwb⟩ := HP1.out.blk
  obtain ⟨-, -, -, -, -, -, p6, p7, p8, p9, p10, -, -, -, -⟩ := cellW hwb
  have hpb := C.lt_of_block hwb
  clear hk1 hw1 hb1 mb1 hBx hK1 h hd hwb hbx
  have HT := hide (tickW0 w0 w1 K1 wb Y A B es xn bn st HP1.out HD.out.ra (by omega) (by have := HD.out.bl; omega) (by have := HD.out.el; omega) HD.out.wa)
  go_enter Tryz.func6, Tryz.ntmps6
  go_upto_region 1 with (fail)
  rw [HW1.out]
  rw [hBX.out]
  go_wp2_with fail
  refine HT.out.mono ?_
  rintro e w2 ⟨rfl, K2, sv, fs, hwm, hfl⟩
  have hd := HD.out
  have HR : Hid (Ws w0 w2 wb (st + 1)) := ⟨K2, _, _, _, _, _, _, hwm, ⟨hd.ra.tick.up, hd.rb.up, by rw [tickL_win]; exact hd.wa, hd.wb, Nat.le_succ_of_le hd.tn, Nat.le_succ_of_le hd.xl, by have := hd.bl; omega, by have := hd.el; rw [List.length_append]; omega, hd.y0, hd.y1, hd.c0, hd.c1⟩⟩
  clear hwm hfl HT hd
  go_wp2
  go_ret
  exact ⟨rfl, HR.out⟩
set_option maxRecDepth 100000 in
set_option maxHeartbeats 8000000 in
set_option linter.unusedVariables false in
set_option linter.unusedSimpArgs false in
theorem step_tick1 (w0 w : World) (K : Knd) (wb : Nat) (Y : Pw.Wc) (A B : Lk) (es : List Fe) (xn bn st : Nat) (h : Wm w0 w K wb Y A A B B es xn bn st) (hd : Wd Y A B es xn bn st) (hst : st ≤ 700) (on pick : Int) (bp fp : Option Addr) (nb bc nf fc mine yours seq ack olife : Nat) (f0 f1 : Int) (hon : bits .and .i64 on 1 = 1) :
    Calls Tryz.prog 6 #[.pointer (some ⟨wb, 0, none⟩), .agg #[.int .i64 5, .int .i64 on, .slice bp nb bc, .int .i64 f0, .int .i64 f1, .int .u64 (mine : Int), .int .u64 (yours : Int), .int .u64 (seq : Int), .int .u64 (ack : Int), .slice fp nf fc, .int .i64 pick, .int .u64 (olife : Int)]] w fun e w' => e = .returned (.bool true) ∧ Ws w0 w' wb (st + 1) := by
  obtain ⟨w1, hw1⟩ : ∃ w1, w.alloc (.cells #[.int .i64 5, .int .i64 on, .slice bp nb bc, .int .i64 f0, .int .i64 f1, .int .u64 (mine : Int), .int .u64 (yours : Int), .int .u64 (seq : Int), .int .u64 (ack : Int), .slice fp nf fc, .int .i64 pick, .int .u64 (olife : Int)] 35) = w1 := ⟨_, rfl⟩
  have hb1 : Below w.heap.size w w1 := by rw [← hw1]; exact (Below.refl _ _).alloc (Nat.le_refl _) _
  have hk1 : w1.heap[w.heap.size]? = some (.cells #[.int .i64 5, .int .i64 on, .slice bp nb bc, .int .i64 f0, .int .i64 f1, .int .u64 (mine : Int), .int .u64 (yours : Int), .int .u64 (seq : Int), .int .u64 (ack : Int), .slice fp nf fc, .int .i64 pick, .int .u64 (olife : Int)] 35 (0, 0)) := by rw [← hw1]; exact heap_alloc_new _ _
  have mb1 : Kp (fun _ => False) K (ext K w.heap.size (9, 9)) w w1 := kp_below hb1 _ _ _
  have hBx : Bq w1 (ext K w.heap.size (9, 9)) w.heap.size #[.int .i64 5, .int .i64 on, .slice bp nb bc, .int .i64 f0, .int .i64 f1, .int .u64 (mine : Int), .int .u64 (yours : Int), .int .u64 (seq : Int), .int .u64 (ack : Int), .slice fp nf fc, .int .i64 pick, .int .u64 (olife : Int)] 35 := ⟨hk1, ext_new _ _ (Nat.le_refl _)⟩
  obtain ⟨K1, hK1⟩ : ∃ K1, ext K w.heap.size (9, 9) = K1 := ⟨_, rfl⟩
  rw [hK1] at mb1 hBx
  have HP1 := hide (h.k9 mb1 (fun _ e => e.elim))
  have HM1 := hide mb1
  have HBx := hide hBx
  obtain ⟨bx, hbx⟩ : ∃ bx, w.heap.size = bx := ⟨_, rfl⟩
  rw [hbx] at HBx hk1
  obtain ⟨x0, x1, x2, x3, x4, x5, x6, x7, x8, x9, x10, x11⟩ := sblk12 hk1
  have hob := C.lt_of_block hk1
  have HW1 := hide hw1
  have HD := hide hd
  have hBX := hide hbx
  obtain ⟨O, I, hwb, hkwb⟩ := HP1.out.blk
  obtain ⟨-, -, -, -, -, -, p6, p7, p8, p9, p10, -, -, -, -⟩ := cellW hwb
  have hpb := C.lt_of_block hwb
  clear hk1 hw1 hb1 mb1 hBx hK1 h hd hwb hbx
  have HT := hide (tickW1 w0 w1 K1 wb Y A B es xn bn st HP1.out HD.out.rb (by omega) (by have := HD.out.bl; omega) (by have := HD.out.el; omega) HD.out.wb)
  go_enter Tryz.func6, Tryz.ntmps6
  go_upto_region 1 with (fail)
  rw [HW1.out]
  rw [hBX.out]
  go_wp2_with fail
  refine HT.out.mono ?_
  rintro e w2 ⟨rfl, K2, sv, fs, hwm, hfl⟩
  have hd := HD.out
  have HR : Hid (Ws w0 w2 wb (st + 1)) := ⟨K2, _, _, _, _, _, _, hwm, ⟨hd.ra.up, hd.rb.tick.up, hd.wa, by rw [tickL_win]; exact hd.wb, Nat.le_succ_of_le hd.tn, Nat.le_succ_of_le hd.xl, by have := hd.bl; omega, by have := hd.el; rw [List.length_append]; omega, hd.y0, hd.y1, hd.c0, hd.c1⟩⟩
  clear hwm hfl HT hd
  go_wp2
  go_ret
  exact ⟨rfl, HR.out⟩
set_option maxRecDepth 100000 in
set_option maxHeartbeats 8000000 in
set_option linter.unusedVariables false in
set_option linter.unusedSimpArgs false in
theorem step_owe0 (w0 w : World) (K : Knd) (wb : Nat) (Y : Pw.Wc) (A B : Lk) (es : List Fe) (xn bn st : Nat) (h : Wm w0 w K wb Y A A B B es xn bn st) (hd : Wd Y A B es xn bn st) (hst : st ≤ 700) (on pick : Int) (bp fp : Option Addr) (nb bc nf fc mine yours seq ack olife : Nat) (f0 f1 : Int) (hon : bits .and .i64 on 1 = 0) :
    Calls Tryz.prog 6 #[.pointer (some ⟨wb, 0, none⟩), .agg #[.int .i64 2, .int .i64 on, .slice bp nb bc, .int .i64 f0, .int .i64 f1, .int .u64 (mine : Int), .int .u64 (yours : Int), .int .u64 (seq : Int), .int .u64 (ack : Int), .slice fp nf fc, .int .i64 pick, .int .u64 (olife : Int)]] w fun e w' => e = .returned (.bool true) ∧ Ws w0 w' wb (st + 1) := by
  obtain ⟨w1, hw1⟩ : ∃ w1, w.alloc (.cells #[.int .i64 2, .int .i64 on, .slice bp nb bc, .int .i64 f0, .int .i64 f1, .int .u64 (mine : Int), .int .u64 (yours : Int), .int .u64 (seq : Int), .int .u64 (ack : Int), .slice fp nf fc, .int .i64 pick, .int .u64 (olife : Int)] 35) = w1 := ⟨_, rfl⟩
  have hb1 : Below w.heap.size w w1 := by rw [← hw1]; exact (Below.refl _ _).alloc (Nat.le_refl _) _
  have hk1 : w1.heap[w.heap.size]? = some (.cells #[.int .i64 2, .int .i64 on, .slice bp nb bc, .int .i64 f0, .int .i64 f1, .int .u64 (mine : Int), .int .u64 (yours : Int), .int .u64 (seq : Int), .int .u64 (ack : Int), .slice fp nf fc, .int .i64 pick, .int .u64 (olife : Int)] 35 (0, 0)) := by rw [← hw1]; exact heap_alloc_new _ _
  have mb1 : Kp (fun _ => False) K (ext K w.heap.size (9, 9)) w w1 := kp_below hb1 _ _ _
  have hBx : Bq w1 (ext K w.heap.size (9, 9)) w.heap.size #[.int .i64 2, .int .i64 on, .slice bp nb bc, .int .i64 f0, .int .i64 f1, .int .u64 (mine : Int), .int .u64 (yours : Int), .int .u64 (seq : Int), .int .u64 (ack : Int), .slice fp nf fc, .int .i64 pick, .int .u64 (olife : Int)] 35 := ⟨hk1, ext_new _ _ (Nat.le_refl _)⟩
  obtain ⟨K1, hK1⟩ : ∃ K1, ext K w.heap.size (9, 9) = K1 := ⟨_, rfl⟩
  rw [hK1] at mb1 hBx
  have HP1 := hide (h.k9 mb1 (fun _ e => e.elim))
  have HM1 := hide mb1
  have HBx := hide hBx
  obtain ⟨bx, hbx⟩ : ∃ bx, w.heap.size = bx := ⟨_, rfl⟩
  rw [hbx] at HBx hk1
  obtain ⟨x0, x1, x2, x3, x4, x5, x6, x7, x8, x9, x10, x11⟩ := sblk12 hk1
  have hob := C.lt_of_block hk1
  have HW1 := hide hw1
  have HD := hide hd
  have hBX := hide hbx
  obtain ⟨O, I, hwb, hkwb⟩ := HP1.out.blk
  obtain ⟨-, -, -, -, -, -, p6, p7, p8, p9, p10, -, -, -, -⟩ := cellW hwb
  have hpb := C.lt_of_block hwb
  clear hk1 hw1 hb1 mb1 hBx hK1 h hd hwb hbx
  obtain ⟨rv, hlx⟩ := HP1.out.la
  obtain ⟨rv2, t2, hdk, htl⟩ := HP1.out.ka
  have HO := hide (powe_x hlx)
  clear hlx
  go_enter Tryz.func6, Tryz.ntmps6
  go_upto_region 1 with (fail)
  rw [HW1.out]
  rw [hBX.out]
  go_wp2_with fail
  refine HO.out.mono ?_
  rintro e w2 ⟨rfl, hl, hkp⟩
  have HW2 := hide (HP1.out.tla hkp (by simp) (fun j => by simp) (by simp) (by simp) (by simp) (by simp) (by simp) (by simp) (by simp) (by simp) (fun j => by simp) (fun j => by simp) hl)
  have hdk2 := hdk.kp hkp (by simp) (by simp)
  have HO2 := hide (dowe_x (by simp) hdk2)
  obtain ⟨O2, I2, hwb2, -⟩ := HW2.out.blk
  clear p6 p7 p8 p9 p10 hl hkp HO hdk hdk2
  obtain ⟨-, -, -, -, -, -, p6, p7, p8, p9, p10, -, -, -, -⟩ := cellW hwb2
  go_wp2_with fail
  refine HO2.out.mono ?_
  rintro e w3 ⟨rfl, ⟨rv3, hd3⟩, hkp⟩
  have hwm := HW2.out.tka hkp (by simp) (fun j => by simp) (by simp) (by simp) (by simp) (by simp) (by simp) (by simp) (by simp) (fun j => by simp) (fun j => by simp) ⟨rv3, t2, hd3, htl⟩
  have hd := HD.out.up
  have HR : Hid (Ws w0 w3 wb (st + 1)) := ⟨K1, Y, _, _, es, xn, bn, hwm.up, ⟨hd.ra.owe, hd.rb, hd.wa, hd.wb, hd.tn, hd.xl, hd.bl, hd.el, hd.y0, hd.y1, hd.c0, hd.c1⟩⟩
  clear hwm hd hd3 hkp hwb2
  go_wp2
  go_ret
  exact ⟨rfl, HR.out⟩
set_option maxRecDepth 100000 in
set_option maxHeartbeats 8000000 in
set_option linter.unusedVariables false in
set_option linter.unusedSimpArgs false in
theorem step_owe1 (w0 w : World) (K : Knd) (wb : Nat) (Y : Pw.Wc) (A B : Lk) (es : List Fe) (xn bn st : Nat) (h : Wm w0 w K wb Y A A B B es xn bn st) (hd : Wd Y A B es xn bn st) (hst : st ≤ 700) (on pick : Int) (bp fp : Option Addr) (nb bc nf fc mine yours seq ack olife : Nat) (f0 f1 : Int) (hon : bits .and .i64 on 1 = 1) :
    Calls Tryz.prog 6 #[.pointer (some ⟨wb, 0, none⟩), .agg #[.int .i64 2, .int .i64 on, .slice bp nb bc, .int .i64 f0, .int .i64 f1, .int .u64 (mine : Int), .int .u64 (yours : Int), .int .u64 (seq : Int), .int .u64 (ack : Int), .slice fp nf fc, .int .i64 pick, .int .u64 (olife : Int)]] w fun e w' => e = .returned (.bool true) ∧ Ws w0 w' wb (st + 1) := by
  obtain ⟨w1, hw1⟩ : ∃ w1, w.alloc (.cells #[.int .i64 2, .int .i64 on, .slice bp nb bc, .int .i64 f0, .int .i64 f1, .int .u64 (mine : Int), .int .u64 (yours : Int), .int .u64 (seq : Int), .int .u64 (ack : Int), .slice fp nf fc, .int .i64 pick, .int .u64 (olife : Int)] 35) = w1 := ⟨_, rfl⟩
  have hb1 : Below w.heap.size w w1 := by rw [← hw1]; exact (Below.refl _ _).alloc (Nat.le_refl _) _
  have hk1 : w1.heap[w.heap.size]? = some (.cells #[.int .i64 2, .int .i64 on, .slice bp nb bc, .int .i64 f0, .int .i64 f1, .int .u64 (mine : Int), .int .u64 (yours : Int), .int .u64 (seq : Int), .int .u64 (ack : Int), .slice fp nf fc, .int .i64 pick, .int .u64 (olife : Int)] 35 (0, 0)) := by rw [← hw1]; exact heap_alloc_new _ _
  have mb1 : Kp (fun _ => False) K (ext K w.heap.size (9, 9)) w w1 := kp_below hb1 _ _ _
  have hBx : Bq w1 (ext K w.heap.size (9, 9)) w.heap.size #[.int .i64 2, .int .i64 on, .slice bp nb bc, .int .i64 f0, .int .i64 f1, .int .u64 (mine : Int), .int .u64 (yours : Int), .int .u64 (seq : Int), .int .u64 (ack : Int), .slice fp nf fc, .int .i64 pick, .int .u64 (olife : Int)] 35 := ⟨hk1, ext_new _ _ (Nat.le_refl _)⟩
  obtain ⟨K1, hK1⟩ : ∃ K1, ext K w.heap.size (9, 9) = K1 := ⟨_, rfl⟩
  rw [hK1] at mb1 hBx
  have HP1 := hide (h.k9 mb1 (fun _ e => e.elim))
  have HM1 := hide mb1
  have HBx := hide hBx
  obtain ⟨bx, hbx⟩ : ∃ bx, w.heap.size = bx := ⟨_, rfl⟩
  rw [hbx] at HBx hk1
  obtain ⟨x0, x1, x2, x3, x4, x5, x6, x7, x8, x9, x10, x11⟩ := sblk12 hk1
  have hob := C.lt_of_block hk1
  have HW1 := hide hw1
  have HD := hide hd
  have hBX := hide hbx
  obtain ⟨O, I, hwb, hkwb⟩ := HP1.out.blk
  obtain ⟨-, -, -, -, -, -, p6, p7, p8, p9, p10, -, -, -, -⟩ := cellW hwb
  have hpb := C.lt_of_block hwb
  clear hk1 hw1 hb1 mb1 hBx hK1 h hd hwb hbx
  obtain ⟨rv, hlx⟩ := HP1.out.lb
  obtain ⟨rv2, t2, hdk, htl⟩ := HP1.out.kb
  have HO := hide (powe_x hlx)
  clear hlx
  go_enter Tryz.func6, Tryz.ntmps6
  go_upto_region 1 with (fail)
  rw [HW1.out]
  rw [hBX.out]
  go_wp2_with fail
  refine HO.out.mono ?_
  rintro e w2 ⟨rfl, hl, hkp⟩
  have HW2 := hide (HP1.out.tlb hkp (by simp) (fun j => by simp) (by simp) (by simp) (by simp) (by simp) (by simp) (by simp) (by simp) (by simp) (fun j => by simp) (fun j => by simp) hl)
  have hdk2 := hdk.kp hkp (by simp) (by simp)
  have HO2 := hide (dowe_x (by simp) hdk2)
  obtain ⟨O2, I2, hwb2, -⟩ := HW2.out.blk
  clear p6 p7 p8 p9 p10 hl hkp HO hdk hdk2
  obtain ⟨-, -, -, -, -, -, p6, p7, p8, p9, p10, -, -, -, -⟩ := cellW hwb2
  go_wp2_with fail
  refine HO2.out.mono ?_
  rintro e w3 ⟨rfl, ⟨rv3, hd3⟩, hkp⟩
  have hwm := HW2.out.tkb hkp (by simp) (fun j => by simp) (by simp) (by simp) (by simp) (by simp) (by simp) (by simp) (by simp) (fun j => by simp) (fun j => by simp) ⟨rv3, t2, hd3, htl⟩
  have hd := HD.out.up
  have HR : Hid (Ws w0 w3 wb (st + 1)) := ⟨K1, Y, _, _, es, xn, bn, hwm.up, ⟨hd.ra, hd.rb.owe, hd.wa, hd.wb, hd.tn, hd.xl, hd.bl, hd.el, hd.y0, hd.y1, hd.c0, hd.c1⟩⟩
  clear hwm hd hd3 hkp hwb2
  go_wp2
  go_ret
  exact ⟨rfl, HR.out⟩
set_option maxRecDepth 100000 in
set_option maxHeartbeats 8000000 in
set_option linter.unusedVariables false in
set_option linter.unusedSimpArgs false in
theorem step_hear0 (w0 w : World) (K : Knd) (wb : Nat) (Y : Pw.Wc) (A B : Lk) (es : List Fe) (xn bn st : Nat) (h : Wm w0 w K wb Y A A B B es xn bn st) (hd : Wd Y A B es xn bn st) (hst : st ≤ 700) (on pick : Int) (bp fp : Option Addr) (nb bc nf fc mine yours seq ack olife : Nat) (f0 f1 : Int) (hon : bits .and .i64 on 1 = 0) (bo : List Nat) (hnb : bo.length = nf) (hlen : nf ≤ 140737488351232) (hx : Sx w K fp bo) :
    Calls Tryz.prog 6 #[.pointer (some ⟨wb, 0, none⟩), .agg #[.int .i64 3, .int .i64 on, .slice bp nb bc, .int .i64 f0, .int .i64 f1, .int .u64 (mine : Int), .int .u64 (yours : Int), .int .u64 (seq : Int), .int .u64 (ack : Int), .slice fp nf fc, .int .i64 pick, .int .u64 (olife : Int)]] w fun e w' => e = .returned (.bool true) ∧ Ws w0 w' wb (st + 1) := by
  obtain ⟨w1, hw1⟩ : ∃ w1, w.alloc (.cells #[.int .i64 3, .int .i64 on, .slice bp nb bc, .int .i64 f0, .int .i64 f1, .int .u64 (mine : Int), .int .u64 (yours : Int), .int .u64 (seq : Int), .int .u64 (ack : Int), .slice fp nf fc, .int .i64 pick, .int .u64 (olife : Int)] 35) = w1 := ⟨_, rfl⟩
  have hb1 : Below w.heap.size w w1 := by rw [← hw1]; exact (Below.refl _ _).alloc (Nat.le_refl _) _
  have hk1 : w1.heap[w.heap.size]? = some (.cells #[.int .i64 3, .int .i64 on, .slice bp nb bc, .int .i64 f0, .int .i64 f1, .int .u64 (mine : Int), .int .u64 (yours : Int), .int .u64 (seq : Int), .int .u64 (ack : Int), .slice fp nf fc, .int .i64 pick, .int .u64 (olife : Int)] 35 (0, 0)) := by rw [← hw1]; exact heap_alloc_new _ _
  have mb1 : Kp (fun _ => False) K (ext K w.heap.size (9, 9)) w w1 := kp_below hb1 _ _ _
  have hBx : Bq w1 (ext K w.heap.size (9, 9)) w.heap.size #[.int .i64 3, .int .i64 on, .slice bp nb bc, .int .i64 f0, .int .i64 f1, .int .u64 (mine : Int), .int .u64 (yours : Int), .int .u64 (seq : Int), .int .u64 (ack : Int), .slice fp nf fc, .int .i64 pick, .int .u64 (olife : Int)] 35 := ⟨hk1, ext_new _ _ (Nat.le_refl _)⟩
  obtain ⟨K1, hK1⟩ : ∃ K1, ext K w.heap.size (9, 9) = K1 := ⟨_, rfl⟩
  rw [hK1] at mb1 hBx
  have HP1 := hide (h.k9 mb1 (fun _ e => e.elim))
  have HM1 := hide mb1
  have HBx := hide hBx
  obtain ⟨bx, hbx⟩ : ∃ bx, w.heap.size = bx := ⟨_, rfl⟩
  rw [hbx] at HBx hk1
  obtain ⟨x0, x1, x2, x3, x4, x5, x6, x7, x8, x9, x10, x11⟩ := sblk12 hk1
  have hob := C.lt_of_block hk1
  have HW1 := hide hw1
  have HD := hide hd
  have hBX := hide hbx
  obtain ⟨O, I, hwb, hkwb⟩ := HP1.out.blk
  obtain ⟨-, -, -, -, -, -, p6, p7, p8, p9, p10, -, -, -, -⟩ := cellW hwb
  have hpb := C.lt_of_block hwb
  clear hk1 hw1 hb1 mb1 hBx hK1 h hd hwb hbx
  have HH := hide (hearW0 w0 w1 K1 wb Y A B es xn bn st HP1.out HD.out.ra (by omega) (by have := HD.out.xl; omega) (by have := HD.out.tn; omega) f0 f1 mine yours seq ack nf fc fp bo hnb hlen (hx.kp HM1.out (fun e => e) (fun e => e)))
  clear hx
  go_enter Tryz.func6, Tryz.ntmps6
  go_upto_region 1 with (fail)
  rw [HW1.out]
  rw [hBX.out]
  go_wp2_with fail
  refine HH.out.mono ?_
  rintro e w2 ⟨rfl, K2, A2, xs, t1, t2, t3, hh, hwm, -⟩
  have hd := HD.out
  have HR : Hid (Ws w0 w2 wb (st + 1)) := ⟨K2, _, _, _, es, _, bn, hwm.up, ⟨(hh.rn hd.ra).1, hd.rb.up, by rw [(hh.rn hd.ra).2]; exact hd.wa, hd.wb, by show Y.turn + 1 ≤ st + 1; have := hd.tn; omega, by have := hd.xl; omega, by have := hd.bl; omega, by have := hd.el; omega, hd.y0, hd.y1, hd.c0, hd.c1⟩⟩
  clear hwm hh HH hd
  go_wp2
  go_ret
  exact ⟨rfl, HR.out⟩
set_option maxRecDepth 100000 in
set_option maxHeartbeats 8000000 in
set_option linter.unusedVariables false in
set_option linter.unusedSimpArgs false in
theorem step_hear1 (w0 w : World) (K : Knd) (wb : Nat) (Y : Pw.Wc) (A B : Lk) (es : List Fe) (xn bn st : Nat) (h : Wm w0 w K wb Y A A B B es xn bn st) (hd : Wd Y A B es xn bn st) (hst : st ≤ 700) (on pick : Int) (bp fp : Option Addr) (nb bc nf fc mine yours seq ack olife : Nat) (f0 f1 : Int) (hon : bits .and .i64 on 1 = 1) (bo : List Nat) (hnb : bo.length = nf) (hlen : nf ≤ 140737488351232) (hx : Sx w K fp bo) :
    Calls Tryz.prog 6 #[.pointer (some ⟨wb, 0, none⟩), .agg #[.int .i64 3, .int .i64 on, .slice bp nb bc, .int .i64 f0, .int .i64 f1, .int .u64 (mine : Int), .int .u64 (yours : Int), .int .u64 (seq : Int), .int .u64 (ack : Int), .slice fp nf fc, .int .i64 pick, .int .u64 (olife : Int)]] w fun e w' => e = .returned (.bool true) ∧ Ws w0 w' wb (st + 1) := by
  obtain ⟨w1, hw1⟩ : ∃ w1, w.alloc (.cells #[.int .i64 3, .int .i64 on, .slice bp nb bc, .int .i64 f0, .int .i64 f1, .int .u64 (mine : Int), .int .u64 (yours : Int), .int .u64 (seq : Int), .int .u64 (ack : Int), .slice fp nf fc, .int .i64 pick, .int .u64 (olife : Int)] 35) = w1 := ⟨_, rfl⟩
  have hb1 : Below w.heap.size w w1 := by rw [← hw1]; exact (Below.refl _ _).alloc (Nat.le_refl _) _
  have hk1 : w1.heap[w.heap.size]? = some (.cells #[.int .i64 3, .int .i64 on, .slice bp nb bc, .int .i64 f0, .int .i64 f1, .int .u64 (mine : Int), .int .u64 (yours : Int), .int .u64 (seq : Int), .int .u64 (ack : Int), .slice fp nf fc, .int .i64 pick, .int .u64 (olife : Int)] 35 (0, 0)) := by rw [← hw1]; exact heap_alloc_new _ _
  have mb1 : Kp (fun _ => False) K (ext K w.heap.size (9, 9)) w w1 := kp_below hb1 _ _ _
  have hBx : Bq w1 (ext K w.heap.size (9, 9)) w.heap.size #[.int .i64 3, .int .i64 on, .slice bp nb bc, .int .i64 f0, .int .i64 f1, .int .u64 (mine : Int), .int .u64 (yours : Int), .int .u64 (seq : Int), .int .u64 (ack : Int), .slice fp nf fc, .int .i64 pick, .int .u64 (olife : Int)] 35 := ⟨hk1, ext_new _ _ (Nat.le_refl _)⟩
  obtain ⟨K1, hK1⟩ : ∃ K1, ext K w.heap.size (9, 9) = K1 := ⟨_, rfl⟩
  rw [hK1] at mb1 hBx
  have HP1 := hide (h.k9 mb1 (fun _ e => e.elim))
  have HM1 := hide mb1
  have HBx := hide hBx
  obtain ⟨bx, hbx⟩ : ∃ bx, w.heap.size = bx := ⟨_, rfl⟩
  rw [hbx] at HBx hk1
  obtain ⟨x0, x1, x2, x3, x4, x5, x6, x7, x8, x9, x10, x11⟩ := sblk12 hk1
  have hob := C.lt_of_block hk1
  have HW1 := hide hw1
  have HD := hide hd
  have hBX := hide hbx
  obtain ⟨O, I, hwb, hkwb⟩ := HP1.out.blk
  obtain ⟨-, -, -, -, -, -, p6, p7, p8, p9, p10, -, -, -, -⟩ := cellW hwb
  have hpb := C.lt_of_block hwb
  clear hk1 hw1 hb1 mb1 hBx hK1 h hd hwb hbx
  have HH := hide (hearW1 w0 w1 K1 wb Y A B es xn bn st HP1.out HD.out.rb (by omega) (by have := HD.out.xl; omega) (by have := HD.out.tn; omega) f0 f1 mine yours seq ack nf fc fp bo hnb hlen (hx.kp HM1.out (fun e => e) (fun e => e)))
  clear hx
  go_enter Tryz.func6, Tryz.ntmps6
  go_upto_region 1 with (fail)
  rw [HW1.out]
  rw [hBX.out]
  go_wp2_with fail
  refine HH.out.mono ?_
  rintro e w2 ⟨rfl, K2, A2, xs, t1, t2, t3, hh, hwm, -⟩
  have hd := HD.out
  have HR : Hid (Ws w0 w2 wb (st + 1)) := ⟨K2, _, _, _, es, _, bn, hwm.up, ⟨hd.ra.up, (hh.rn hd.rb).1, hd.wa, by rw [(hh.rn hd.rb).2]; exact hd.wb, by show Y.turn + 1 ≤ st + 1; have := hd.tn; omega, by have := hd.xl; omega, by have := hd.bl; omega, by have := hd.el; omega, hd.y0, hd.y1, hd.c0, hd.c1⟩⟩
  clear hwm hh HH hd
  go_wp2
  go_ret
  exact ⟨rfl, HR.out⟩
set_option maxRecDepth 100000 in
set_option maxHeartbeats 8000000 in
set_option linter.unusedVariables false in
set_option linter.unusedSimpArgs false in
theorem step_new0 (w0 w : World) (K : Knd) (wb : Nat) (Y : Pw.Wc) (A B : Lk) (es : List Fe) (xn bn st : Nat) (h : Wm w0 w K wb Y A A B B es xn bn st) (hd : Wd Y A B es xn bn st) (hst : st ≤ 700) (on pick : Int) (bp fp : Option Addr) (nb bc nf fc mine yours seq ack olife : Nat) (f0 f1 : Int) (hon : bits .and .i64 on 1 = 0) :
    Calls Tryz.prog 6 #[.pointer (some ⟨wb, 0, none⟩), .agg #[.int .i64 6, .int .i64 on, .slice bp nb bc, .int .i64 f0, .int .i64 f1, .int .u64 (mine : Int), .int .u64 (yours : Int), .int .u64 (seq : Int), .int .u64 (ack : Int), .slice fp nf fc, .int .i64 pick, .int .u64 (olife : Int)]] w fun e w' => e = .returned (.bool true) ∧ Ws w0 w' wb (st + 1) := by
  obtain ⟨w1, hw1⟩ : ∃ w1, w.alloc (.cells #[.int .i64 6, .int .i64 on, .slice bp nb bc, .int .i64 f0, .int .i64 f1, .int .u64 (mine : Int), .int .u64 (yours : Int), .int .u64 (seq : Int), .int .u64 (ack : Int), .slice fp nf fc, .int .i64 pick, .int .u64 (olife : Int)] 35) = w1 := ⟨_, rfl⟩
  have hb1 : Below w.heap.size w w1 := by rw [← hw1]; exact (Below.refl _ _).alloc (Nat.le_refl _) _
  have hk1 : w1.heap[w.heap.size]? = some (.cells #[.int .i64 6, .int .i64 on, .slice bp nb bc, .int .i64 f0, .int .i64 f1, .int .u64 (mine : Int), .int .u64 (yours : Int), .int .u64 (seq : Int), .int .u64 (ack : Int), .slice fp nf fc, .int .i64 pick, .int .u64 (olife : Int)] 35 (0, 0)) := by rw [← hw1]; exact heap_alloc_new _ _
  have mb1 : Kp (fun _ => False) K (ext K w.heap.size (9, 9)) w w1 := kp_below hb1 _ _ _
  have hBx : Bq w1 (ext K w.heap.size (9, 9)) w.heap.size #[.int .i64 6, .int .i64 on, .slice bp nb bc, .int .i64 f0, .int .i64 f1, .int .u64 (mine : Int), .int .u64 (yours : Int), .int .u64 (seq : Int), .int .u64 (ack : Int), .slice fp nf fc, .int .i64 pick, .int .u64 (olife : Int)] 35 := ⟨hk1, ext_new _ _ (Nat.le_refl _)⟩
  obtain ⟨K1, hK1⟩ : ∃ K1, ext K w.heap.size (9, 9) = K1 := ⟨_, rfl⟩
  rw [hK1] at mb1 hBx
  have HP1 := hide (h.k9 mb1 (fun _ e => e.elim))
  have HM1 := hide mb1
  have HBx := hide hBx
  obtain ⟨bx, hbx⟩ : ∃ bx, w.heap.size = bx := ⟨_, rfl⟩
  rw [hbx] at HBx hk1
  obtain ⟨x0, x1, x2, x3, x4, x5, x6, x7, x8, x9, x10, x11⟩ := sblk12 hk1
  have hob := C.lt_of_block hk1
  have HW1 := hide hw1
  have HD := hide hd
  have hBX := hide hbx
  obtain ⟨O, I, hwb, hkwb⟩ := HP1.out.blk
  obtain ⟨-, -, -, -, -, -, p6, p7, p8, p9, p10, -, -, -, -⟩ := cellW hwb
  have hpb := C.lt_of_block hwb
  clear hk1 hw1 hb1 mb1 hBx hK1 h hd hwb hbx
  have HLf := hide (fun w => lifeN_any w olife)
  have HLv := hide (livesW0 w0 w1 K1 wb Y A A B B es xn bn st (1 + olife % 1099511627776) HP1.out ⟨HD.out.y0.1, HD.out.y1.1⟩ ⟨HD.out.c0, HD.out.c1⟩)
  go_enter Tryz.func6, Tryz.ntmps6
  go_upto_region 1 with (fail)
  rw [HW1.out]
  rw [hBX.out]
  go_wp2_with fail
  refine (HLf.out _).mono ?_
  rintro e wx ⟨rfl, rfl⟩
  go_wp2_with fail
  refine HLv.out.mono ?_
  rintro e w2 ⟨rfl, bl, bk, K2, hwm⟩
  have hd := HD.out.up
  have HR : Hid (Ws w0 w2 wb (st + 1)) := ⟨K2, _, _, _, es, xn, bn, hwm.up, ⟨rn_le (rn_new _ _ _ _ _) (Nat.zero_le _), hd.rb, by show max Y.w0 0 ≤ 16; have := hd.y0; omega, hd.wb, hd.tn, hd.xl, hd.bl, hd.el, hd.y0, hd.y1, hd.c0, hd.c1⟩⟩
  clear hwm hd HLv
  go_wp2
  go_ret
  exact ⟨rfl, HR.out⟩
set_option maxRecDepth 100000 in
set_option maxHeartbeats 8000000 in
set_option linter.unusedVariables false in
set_option linter.unusedSimpArgs false in
theorem step_new1 (w0 w : World) (K : Knd) (wb : Nat) (Y : Pw.Wc) (A B : Lk) (es : List Fe) (xn bn st : Nat) (h : Wm w0 w K wb Y A A B B es xn bn st) (hd : Wd Y A B es xn bn st) (hst : st ≤ 700) (on pick : Int) (bp fp : Option Addr) (nb bc nf fc mine yours seq ack olife : Nat) (f0 f1 : Int) (hon : bits .and .i64 on 1 = 1) :
    Calls Tryz.prog 6 #[.pointer (some ⟨wb, 0, none⟩), .agg #[.int .i64 6, .int .i64 on, .slice bp nb bc, .int .i64 f0, .int .i64 f1, .int .u64 (mine : Int), .int .u64 (yours : Int), .int .u64 (seq : Int), .int .u64 (ack : Int), .slice fp nf fc, .int .i64 pick, .int .u64 (olife : Int)]] w fun e w' => e = .returned (.bool true) ∧ Ws w0 w' wb (st + 1) := by
  obtain ⟨w1, hw1⟩ : ∃ w1, w.alloc (.cells #[.int .i64 6, .int .i64 on, .slice bp nb bc, .int .i64 f0, .int .i64 f1, .int .u64 (mine : Int), .int .u64 (yours : Int), .int .u64 (seq : Int), .int .u64 (ack : Int), .slice fp nf fc, .int .i64 pick, .int .u64 (olife : Int)] 35) = w1 := ⟨_, rfl⟩
  have hb1 : Below w.heap.size w w1 := by rw [← hw1]; exact (Below.refl _ _).alloc (Nat.le_refl _) _
  have hk1 : w1.heap[w.heap.size]? = some (.cells #[.int .i64 6, .int .i64 on, .slice bp nb bc, .int .i64 f0, .int .i64 f1, .int .u64 (mine : Int), .int .u64 (yours : Int), .int .u64 (seq : Int), .int .u64 (ack : Int), .slice fp nf fc, .int .i64 pick, .int .u64 (olife : Int)] 35 (0, 0)) := by rw [← hw1]; exact heap_alloc_new _ _
  have mb1 : Kp (fun _ => False) K (ext K w.heap.size (9, 9)) w w1 := kp_below hb1 _ _ _
  have hBx : Bq w1 (ext K w.heap.size (9, 9)) w.heap.size #[.int .i64 6, .int .i64 on, .slice bp nb bc, .int .i64 f0, .int .i64 f1, .int .u64 (mine : Int), .int .u64 (yours : Int), .int .u64 (seq : Int), .int .u64 (ack : Int), .slice fp nf fc, .int .i64 pick, .int .u64 (olife : Int)] 35 := ⟨hk1, ext_new _ _ (Nat.le_refl _)⟩
  obtain ⟨K1, hK1⟩ : ∃ K1, ext K w.heap.size (9, 9) = K1 := ⟨_, rfl⟩
  rw [hK1] at mb1 hBx
  have HP1 := hide (h.k9 mb1 (fun _ e => e.elim))
  have HM1 := hide mb1
  have HBx := hide hBx
  obtain ⟨bx, hbx⟩ : ∃ bx, w.heap.size = bx := ⟨_, rfl⟩
  rw [hbx] at HBx hk1
  obtain ⟨x0, x1, x2, x3, x4, x5, x6, x7, x8, x9, x10, x11⟩ := sblk12 hk1
  have hob := C.lt_of_block hk1
  have HW1 := hide hw1
  have HD := hide hd
  have hBX := hide hbx
  obtain ⟨O, I, hwb, hkwb⟩ := HP1.out.blk
  obtain ⟨-, -, -, -, -, -, p6, p7, p8, p9, p10, -, -, -, -⟩ := cellW hwb
  have hpb := C.lt_of_block hwb
  clear hk1 hw1 hb1 mb1 hBx hK1 h hd hwb hbx
  have HLf := hide (fun w => lifeN_any w olife)
  have HLv := hide (livesW1 w0 w1 K1 wb Y A A B B es xn bn st (1 + olife % 1099511627776) HP1.out ⟨HD.out.y0.1, HD.out.y1.1⟩ ⟨HD.out.c0, HD.out.c1⟩)
  go_enter Tryz.func6, Tryz.ntmps6
  go_upto_region 1 with (fail)
  rw [HW1.out]
  rw [hBX.out]
  go_wp2_with fail
  refine (HLf.out _).mono ?_
  rintro e wx ⟨rfl, rfl⟩
  go_wp2_with fail
  refine HLv.out.mono ?_
  rintro e w2 ⟨rfl, bl, bk, K2, hwm⟩
  have hd := HD.out.up
  have HR : Hid (Ws w0 w2 wb (st + 1)) := ⟨K2, _, _, _, es, xn, bn, hwm.up, ⟨hd.ra, rn_le (rn_new _ _ _ _ _) (Nat.zero_le _), hd.wa, by show max Y.w1 0 ≤ 16; have := hd.y1; omega, hd.tn, hd.xl, hd.bl, hd.el, hd.y0, hd.y1, hd.c0, hd.c1⟩⟩
  clear hwm hd HLv
  go_wp2
  go_ret
  exact ⟨rfl, HR.out⟩
set_option maxRecDepth 100000 in
set_option maxHeartbeats 8000000 in
set_option linter.unusedVariables false in
set_option linter.unusedSimpArgs false in
theorem step_other (w0 w : World) (K : Knd) (wb : Nat) (Y : Pw.Wc) (A B : Lk) (es : List Fe) (xn bn st : Nat) (h : Wm w0 w K wb Y A A B B es xn bn st) (hd : Wd Y A B es xn bn st) (hst : st ≤ 700) (kind : Int) (on pick : Int) (bp fp : Option Addr) (nb bc nf fc mine yours seq ack olife : Nat) (f0 f1 : Int) (h1 : kind ≠ 1) (h2 : kind ≠ 2) (h3 : kind ≠ 3) (h4 : kind ≠ 4) (h5 : kind ≠ 5) (h6 : kind ≠ 6) :
    Calls Tryz.prog 6 #[.pointer (some ⟨wb, 0, none⟩), .agg #[.int .i64 kind, .int .i64 on, .slice bp nb bc, .int .i64 f0, .int .i64 f1, .int .u64 (mine : Int), .int .u64 (yours : Int), .int .u64 (seq : Int), .int .u64 (ack : Int), .slice fp nf fc, .int .i64 pick, .int .u64 (olife : Int)]] w fun e w' => e = .returned (.bool true) ∧ Ws w0 w' wb (st + 1) := by
  obtain ⟨w1, hw1⟩ : ∃ w1, w.alloc (.cells #[.int .i64 kind, .int .i64 on, .slice bp nb bc, .int .i64 f0, .int .i64 f1, .int .u64 (mine : Int), .int .u64 (yours : Int), .int .u64 (seq : Int), .int .u64 (ack : Int), .slice fp nf fc, .int .i64 pick, .int .u64 (olife : Int)] 35) = w1 := ⟨_, rfl⟩
  have hb1 : Below w.heap.size w w1 := by rw [← hw1]; exact (Below.refl _ _).alloc (Nat.le_refl _) _
  have hk1 : w1.heap[w.heap.size]? = some (.cells #[.int .i64 kind, .int .i64 on, .slice bp nb bc, .int .i64 f0, .int .i64 f1, .int .u64 (mine : Int), .int .u64 (yours : Int), .int .u64 (seq : Int), .int .u64 (ack : Int), .slice fp nf fc, .int .i64 pick, .int .u64 (olife : Int)] 35 (0, 0)) := by rw [← hw1]; exact heap_alloc_new _ _
  have mb1 : Kp (fun _ => False) K (ext K w.heap.size (9, 9)) w w1 := kp_below hb1 _ _ _
  have hBx : Bq w1 (ext K w.heap.size (9, 9)) w.heap.size #[.int .i64 kind, .int .i64 on, .slice bp nb bc, .int .i64 f0, .int .i64 f1, .int .u64 (mine : Int), .int .u64 (yours : Int), .int .u64 (seq : Int), .int .u64 (ack : Int), .slice fp nf fc, .int .i64 pick, .int .u64 (olife : Int)] 35 := ⟨hk1, ext_new _ _ (Nat.le_refl _)⟩
  obtain ⟨K1, hK1⟩ : ∃ K1, ext K w.heap.size (9, 9) = K1 := ⟨_, rfl⟩
  rw [hK1] at mb1 hBx
  have HP1 := hide (h.k9 mb1 (fun _ e => e.elim))
  have HM1 := hide mb1
  have HBx := hide hBx
  obtain ⟨bx, hbx⟩ : ∃ bx, w.heap.size = bx := ⟨_, rfl⟩
  rw [hbx] at HBx hk1
  obtain ⟨x0, x1, x2, x3, x4, x5, x6, x7, x8, x9, x10, x11⟩ := sblk12 hk1
  have hob := C.lt_of_block hk1
  have HW1 := hide hw1
  have HD := hide hd
  have hBX := hide hbx
  obtain ⟨O, I, hwb, hkwb⟩ := HP1.out.blk
  obtain ⟨-, -, -, -, -, -, p6, p7, p8, p9, p10, -, -, -, -⟩ := cellW hwb
  have hpb := C.lt_of_block hwb
  clear hk1 hw1 hb1 mb1 hBx hK1 h hd hwb hbx
  have e1 : (kind == 1) = false := by simpa using h1
  have e2 : (kind == 2) = false := by simpa using h2
  have e3 : (kind == 3) = false := by simpa using h3
  have e4 : (kind == 4) = false := by simpa using h4
  have e5 : (kind == 5) = false := by simpa using h5
  have e6 : (kind == 6) = false := by simpa using h6
  go_enter Tryz.func6, Tryz.ntmps6
  go_upto_region 1 with (fail)
  rw [HW1.out]
  rw [hBX.out]
  go_wp2
  go_ret
  exact ⟨rfl, K1, Y, A, B, es, xn, bn, HP1.out.up, HD.out.up⟩
end Go.Proofs.YtjcdnclfakmbpaaGreatDoor
