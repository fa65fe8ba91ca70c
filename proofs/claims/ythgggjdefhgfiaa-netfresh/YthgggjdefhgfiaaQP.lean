import Derived.Test.YthgggjdefhgfiaaQE
namespace Go.Proofs.Ythgggjdefhgfiaa.Q
open Go.RowKit

def mkB (m i : Nat) : Nat := if i % 2 = 0 then 1 + m % 251 else 1 + (7 * m + m / 251) % 251
theorem mkB_lt (m i : Nat) : mkB m i < 256 := by unfold mkB; split <;> omega
def mks (m l : Nat) : List Nat := (List.range l).map (mkB m)
theorem mks_len (m l : Nat) : (mks m l).length = l := by simp [mks]
theorem mks_small (m l : Nat) : ∀ x ∈ mks m l, x < 256 := fun x hx => by
  simp only [mks, List.mem_map] at hx
  obtain ⟨i, _, rfl⟩ := hx
  exact mkB_lt m i
theorem mks_at (m l i : Nat) (h : i < l) : (mks m l).getD i 0 = mkB m i := by simp [mks, List.getD, h]
theorem mks_snoc (m l : Nat) : mks m (l + 1) = mks m l ++ [mkB m l] := by simp [mks, List.range_succ]

set_option maxRecDepth 100000 in
set_option maxHeartbeats 400000 in
theorem at_mark (w : World) (m i : Nat) (hm : m ≤ 1000000000) (hi : i ≤ 140737488355328) :
    Calls Try.prog 75 #[.int .i64 m, .int .i64 i] w fun e w' => e = .returned (.int .u8 (mkB m i : Nat)) ∧ w' = w := by
  unfold mkB
  by_cases h : i % 2 = 0
  · rw [if_pos h]
    have h1 : ((i : Int) % 2 == 0) = true := by simp; omega
    have h2 : (i : Int) % 2 = 0 := by omega
    have e1 : (1 : Int) + (m : Int) % 251 = ((1 + m % 251 : Nat) : Int) := by omega
    have e2 : 1 + m % 251 < 256 := by omega
    generalize 1 + m % 251 = x at *
    go_enter Try.func75, Try.ntmps75
    go_wp2
    go_ret
    exact ⟨rfl, rfl⟩
  · rw [if_neg h]
    have h1 : ((i : Int) % 2 == 0) = false := by simp; omega
    have h2 : ¬ (i : Int) % 2 = 0 := by omega
    have e1 : (1 : Int) + (7 * (m : Int) + (m : Int) / 251) % 251 = ((1 + (7 * m + m / 251) % 251 : Nat) : Int) := by omega
    have e2 : 1 + (7 * m + m / 251) % 251 < 256 := by omega
    generalize 1 + (7 * m + m / 251) % 251 = x at *
    go_enter Try.func75, Try.ntmps75
    go_wp2
    go_ret
    exact ⟨rfl, rfl⟩

structure Kl where
  p : Option Addr
  l : Nat
  c : Nat
  m : Nat
def Kl.val (k : Kl) : Value := .slice k.p k.l k.c

structure Bk (wr : World) (N b : Nat) (L M : Value) (A turn done used : Nat) (ks : List Kl) : Prop where
  blk : wr.heap[b]? = some (.cells (bkCells L M A turn done used) 50 (0, 0))
  ls : ownsQ false wr N 59 1 L ks.length (ks.map fun k => k.val)
  ms : ownsQ false wr N 3 1 M ks.length (ks.map fun k => .int .i64 (k.m : Int))
  rows : ∀ k ∈ ks, ownsQ true wr N 5 1 k.val k.l (vals (mks k.m k.l))
  num : ∀ k ∈ ks, k.m ≤ 1000000000 ∧ k.l ≤ 100000000000
  most : ks.length ≤ 1000000000
  one : ∀ k ∈ ks, ∀ k' ∈ ks, ∀ g, k.val.ownBlock = some g → k'.val.ownBlock = some g → k.m = k'.m

set_option maxRecDepth 100000 in
set_option maxHeartbeats 2000000 in
theorem bk_plain (w : World) (N b : Nat) (L M : Value) (A turn done used : Nat) (ks : List Kl) (h : Bk w N b L M A turn done used ks) :
    Calls Try.prog 52 #[.pointer (some ⟨b, 0, none⟩)] w fun e w' => e = .returned (.bool true) ∧ ∃ q, w' = w.drewN q := by
  have HK := hide h
  have q0 := bk_cell h.blk 0 L rfl
  have q1 := bk_cell h.blk 1 M rfl
  have q3 := bk_cell h.blk 3 (.slice none 0 0) rfl
  obtain ⟨lp, lc, hL⟩ : ∃ p c, L = .slice p ks.length c := by
    rcases h.ls.2 with ⟨h1, h2⟩ | ⟨g, cap, cur, h1, _⟩
    · exact ⟨none, 0, by rw [h1, h2]⟩
    · exact ⟨_, cap, h1⟩
  obtain ⟨mp, mc, hM⟩ : ∃ p c, M = .slice p ks.length c := by
    rcases h.ms.2 with ⟨h1, h2⟩ | ⟨g, cap, cur, h1, _⟩
    · exact ⟨none, 0, by rw [h1, h2]⟩
    · exact ⟨_, cap, h1⟩
  have hmost := h.most
  subst hL
  subst hM
  clear h
  go_enter Try.func52, Try.ntmps52
  go_wp2
  go_loopw [3] (fun i wr => ∃ (j q : Nat), j ≤ ks.length ∧ i = .int .i64 j ∧ Hid (wr = w.drewN q)) (fun i _ => ks.length - (intOf i).toNat)
  case atStart => exact ⟨0, 0, Nat.zero_le _, rfl, rfl⟩
  case round =>
    obtain ⟨j, q, hj, rfl, HW⟩ := hrel
    have e0 : wr.cell? ⟨b, 0, none⟩ = some (.slice lp ks.length lc) := by rw [HW.out]; exact q0
    have e1 : wr.cell? ⟨b, 1, none⟩ = some (.slice mp ks.length mc) := by rw [HW.out]; exact q1
    have e3 : wr.cell? ⟨b, 3, none⟩ = some (.slice none 0 0) := by rw [HW.out]; exact q3
    by_cases hlt : j < ks.length
    · have hop : ks[j]? = some (ks[j]'hlt) := List.getElem?_eq_getElem _
      obtain ⟨gl, _, hgl, cl0⟩ := row_cell HK.out.ls (k := j) (a := (ks[j]'hlt).val) (by simp [hop])
      obtain ⟨gm, _, hgm, cm0⟩ := row_cell HK.out.ms (k := j) (a := .int .i64 ((ks[j]'hlt).m : Int)) (by simp [hop])
      cases hgl
      cases hgm
      have HR := hide (HK.out.rows _ (List.mem_of_getElem? hop))
      obtain ⟨n1, n2⟩ := HK.out.num _ (List.mem_of_getElem? hop)
      generalize ks[j]'hlt = kl at *
      obtain ⟨p, l, c, m⟩ := kl
      simp only [Kl.val] at cl0 cm0 HR n1 n2
      clear hop
      have l1 : (j : Int) < (ks.length : Int) := by omega
      have l2 : (0 : Int) ≤ (j : Int) := by omega
      go_wp2
      go_loopw [4] (fun i wr => ∃ (i' q : Nat), i' ≤ l ∧ i = .int .i64 i' ∧ Hid (wr = w.drewN q)) (fun i _ => l - (intOf i).toNat)
      case atStart => exact ⟨0, q, Nat.zero_le _, rfl, HW⟩
      case round =>
        clear e0 e1 e3 HW
        obtain ⟨i, q2, hi, rfl, HW⟩ := hrel
        have e0 : wr.cell? ⟨b, 0, none⟩ = some (.slice (some ⟨gl, 0, none⟩) ks.length lc) := by rw [HW.out]; exact q0
        have e1 : wr.cell? ⟨b, 1, none⟩ = some (.slice (some ⟨gm, 0, none⟩) ks.length mc) := by rw [HW.out]; exact q1
        have cl : wr.cell? ⟨gl, j, none⟩ = some (.slice p l c) := by rw [HW.out]; exact cl0
        have cm : wr.cell? ⟨gm, j, none⟩ = some (.int .i64 (m : Int)) := by rw [HW.out]; exact cm0
        by_cases hil : i < l
        · obtain ⟨gx, _, hgx, cx0⟩ := row_cell HR.out (k := i) (a := .int .u8 (mkB m i : Nat)) (by simp [vals, mks, hil])
          cases hgx
          have cx : wr.cell? ⟨gx, i, none⟩ = some (.int .u8 (mkB m i : Nat)) := by rw [HW.out]; exact cx0
          have HA := hide (fun w => at_mark w m i n1 (by omega))
          have hx := mkB_lt m i
          generalize mkB m i = x at *
          have l3 : (i : Int) < (l : Int) := by omega
          have l4 : (0 : Int) ≤ (i : Int) := by omega
          go_wp2
          go_quiet (first | (go_at_call 75; exact Calls.quiet_of_same (HA.out _)))
          go_wp2
          go_roundw
          case rel => exact ⟨i + 1, q2 + nq, by omega, by go_num, by show _ = _; rw [HW.out, World.drewN_drewN]⟩
          case measure => simp [intOf]; omega
        · have l3 : ¬ (i : Int) < (l : Int) := by omega
          go_wp2
          go_roundw
          case rel => exact ⟨j + 1, q2, by omega, by go_num, HW⟩
          case measure => simp [intOf]; omega
    · have l1 : ¬ (j : Int) < (ks.length : Int) := by omega
      go_wp2
      refine wp_loop_rounds 1 ?_
      rw [rounds_succ]
      go_wp2
      go_ret
      exact ⟨rfl, q, HW.out⟩

end Go.Proofs.Ythgggjdefhgfiaa.Q
