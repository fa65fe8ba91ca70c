import Derived.Test.YtlijclghojfdpaaGreatDoorQE
namespace Go.Proofs.YtlijclghojfdpaaGreatDoor.Q
open Go.RowKit Go.Proofs.YtlijclghojfdpaaGreatDoor.U

def mkB (m i : Nat) : Nat := if i % 2 = 0 then 1 + m % 251 else 1 + (7 * m + m / 251) % 251
theorem mkB_lt (m i : Nat) : mkB m i < 256 := by unfold mkB; split <;> omega
def mks (m l : Nat) : List Nat := (List.range l).map (mkB m)
theorem mks_len (m l : Nat) : (mks m l).length = l := by simp [mks]
theorem mks_small (m l : Nat) : ∀ x ∈ mks m l, x < 256 := fun x hx => by
  simp only [mks, List.mem_map] at hx
  obtain ⟨i, _, rfl⟩ := hx
  exact mkB_lt m i
theorem mks_at (m l i : Nat) (h : i < l) : (mks m l).getD i 0 = mkB m i := by simp [mks, List.getD, h]
theorem mks_snoc (m l : Nat) : mks m (l + 1) = mks m l ++ [mkB m l] := by simp [mks, List.range_succ]

set_option maxRecDepth 100000 in
set_option maxHeartbeats 400000 in
theorem at_mark (w : World) (m i : Nat) (hm : m ≤ 1000000000) (hi : i ≤ 140737488355328) :
    Calls Tryz.prog 54 #[.int .i64 m, .int .i64 i] w fun e w' => e = .returned (.int .u8 (mkB m i : Nat)) ∧ w' = w := by
  unfold mkB
  by_cases h : i % 2 = 0
  · rw [if_pos h]
    have h1 : ((i : Int) % 2 == 0) = true := by simp; omega
    have h2 : (i : Int) % 2 = 0 := by omega
    have e1 : (1 : Int) + (m : Int) % 251 = ((1 + m % 251 : Nat) : Int) := by omega
    have e2 : 1 + m % 251 < 256 := by omega
    generalize 1 + m % 251 = x at *
    go_enter Tryz.func54, Tryz.ntmps54
    go_wp2
    go_ret
    exact ⟨rfl, rfl⟩
  · rw [if_neg h]
    have h1 : ((i : Int) % 2 == 0) = false := by simp; omega
    have h2 : ¬ (i : Int) % 2 = 0 := by omega
    have e1 : (1 : Int) + (7 * (m : Int) + (m : Int) / 251) % 251 = ((1 + (7 * m + m / 251) % 251 : Nat) : Int) := by omega
    have e2 : 1 + (7 * m + m / 251) % 251 < 256 := by omega
    generalize 1 + (7 * m + m / 251) % 251 = x at *
    go_enter Tryz.func54, Tryz.ntmps54
    go_wp2
    go_ret
    exact ⟨rfl, rfl⟩

structure Kl where
  p : Option Addr
  l : Nat
  c : Nat
  m : Nat
def Kl.val (k : Kl) : Value := .slice k.p k.l k.c

structure Bk (wr : World) (N b : Nat) (L M : Value) (A turn done used : Nat) (ks : List Kl) : Prop where
  blk : wr.heap[b]? = some (.cells (bkCells L M A turn done used) 50 (0, 0))
  ls : ownsQ false wr N 54 1 L ks.length (ks.map fun k => k.val)
  ms : ownsQ false wr N 3 1 M ks.length (ks.map fun k => .int .i64 (k.m : Int))
  rows : ∀ k ∈ ks, ownsQ true wr N 5 1 k.val k.l (vals (mks k.m k.l))
  num : ∀ k ∈ ks, k.m ≤ 1000000000 ∧ k.l ≤ 100000000000
  most : ks.length ≤ 1000000000
  one : ∀ k ∈ ks, ∀ k' ∈ ks, ∀ g, k.val.ownBlock = some g → k'.val.ownBlock = some g → k.m = k'.m

set_option maxRecDepth 100000 in
set_option maxHeartbeats 2000000 in
theorem bk_plain (w : World) (N b : Nat) (L M : Value) (A turn done used : Nat) (ks : List Kl) (h : Bk w N b L M A turn done used ks) :
    Calls Tryz.prog 56 #[.pointer (some ⟨b, 0, none⟩)] w fun e w' => e = .returned (.bool true) ∧ ∃ q, w' = w.drewN q := by
  have HK := hide h
  have q0 := bk_cell h.blk 0 L rfl
  have q1 := bk_cell h.blk 1 M rfl
  have q3 := bk_cell h.blk 3 (.slice none 0 0) rfl
  obtain ⟨lp, lc, hL⟩ : ∃ p c, L = .slice p ks.length c := by
    rcases h.ls.2 with ⟨h1, h2⟩ | ⟨g, cap, cur, h1, _⟩
    · exact ⟨none, 0, by rw [h1, h2]⟩
    · exact ⟨_, cap, h1⟩
  obtain ⟨mp, mc, hM⟩ : ∃ p c, M = .slice p ks.length c := by
    rcases h.ms.2 with ⟨h1, h2⟩ | ⟨g, cap, cur, h1, _⟩
    · exact ⟨none, 0, by rw [h1, h2]⟩
    · exact ⟨_, cap, h1⟩
  have hmost := h.most
  subst hL
  subst hM
  clear h
  go_enter Tryz.func56, Tryz.ntmps56
  go_wp2
  go_loopw [3] (fun i wr => ∃ (j q : Nat), j ≤ ks.length ∧ i = .int .i64 j ∧ Hid (wr = w.drewN q)) (fun i _ => ks.length - (intOf i).toNat)
  case atStart => exact ⟨0, 0, Nat.zero_le _, rfl, rfl⟩
  case round =>
    obtain ⟨j, q, hj, rfl, HW⟩ := hrel
    have e0 : wr.cell? ⟨b, 0, none⟩ = some (.slice lp ks.length lc) := by rw [HW.out]; exact q0
    have e1 : wr.cell? ⟨b, 1, none⟩ = some (.slice mp ks.length mc) := by rw [HW.out]; exact q1
    have e3 : wr.cell? ⟨b, 3, none⟩ = some (.slice none 0 0) := by rw [HW.out]; exact q3
    by_cases hlt : j < ks.length
    · have hop : ks[j]? = some (ks[j]'hlt) := List.getElem?_eq_getElem _
      obtain ⟨gl, _, hgl, cl0⟩ := row_cell HK.out.ls (k := j) (a := (ks[j]'hlt).val) (by simp [hop])
      obtain ⟨gm, _, hgm, cm0⟩ := row_cell HK.out.ms (k := j) (a := .int .i64 ((ks[j]'hlt).m : Int)) (by simp [hop])
      cases hgl
      cases hgm
      have HR := hide (HK.out.rows _ (List.mem_of_getElem? hop))
      obtain ⟨n1, n2⟩ := HK.out.num _ (List.mem_of_getElem? hop)
      generalize ks[j]'hlt = kl at *
      obtain ⟨p, l, c, m⟩ := kl
      simp only [Kl.val] at cl0 cm0 HR n1 n2
      clear hop
      have l1 : (j : Int) < (ks.length : Int) := by omega
      have l2 : (0 : Int) ≤ (j : Int) := by omega
      go_wp2
      go_loopw [4] (fun i wr => ∃ (i' q : Nat), i' ≤ l ∧ i = .int .i64 i' ∧ Hid (wr = w.drewN q)) (fun i _ => l - (intOf i).toNat)
      case atStart => exact ⟨0, q, Nat.zero_le _, rfl, HW⟩
      case round =>
        clear e0 e1 e3 HW
        obtain ⟨i, q2, hi, rfl, HW⟩ := hrel
        have e0 : wr.cell? ⟨b, 0, none⟩ = some (.slice (some ⟨gl, 0, none⟩) ks.length lc) := by rw [HW.out]; exact q0
        have e1 : wr.cell? ⟨b, 1, none⟩ = some (.slice (some ⟨gm, 0, none⟩) ks.length mc) := by rw [HW.out]; exact q1
        have cl : wr.cell? ⟨gl, j, none⟩ = some (.slice p l c) := by rw [HW.out]; exact cl0
        have cm : wr.cell? ⟨gm, j, none⟩ = some (.int .i64 (m : Int)) := by rw [HW.out]; exact cm0
        by_cases hil : i < l
        · obtain ⟨gx, _, hgx, cx0⟩ := row_cell HR.out (k := i) (a := .int .u8 (mkB m i : Nat)) (by simp [vals, mks, hil])
          cases hgx
          have cx : wr.cell? ⟨gx, i, none⟩ = some (.int .u8 (mkB m i : Nat)) := by rw [HW.out]; exact cx0
          have HA := hide (fun w => at_mark w m i n1 (by omega))
          have hx := mkB_lt m i
          generalize mkB m i = x at *
          have l3 : (i : Int) < (l : Int) := by omega
          have l4 : (0 : Int) ≤ (i : Int) := by omega
          go_wp2
          go_quiet (first | (go_at_call 54; exact Calls.quiet_of_same (HA.out _)))
          go_wp2
          go_roundw
          case rel => exact ⟨i + 1, q2 + nq, by omega, by go_num, by show _ = _; rw [HW.out, World.drewN_drewN]⟩
          case measure => simp [intOf]; omega
        · have l3 : ¬ (i : Int) < (l : Int) := by omega
          go_wp2
          go_roundw
          case rel => exact ⟨j + 1, q2, by omega, by go_num, HW⟩
          case measure => simp [intOf]; omega
    · have l1 : ¬ (j : Int) < (ks.length : Int) := by omega
      go_wp2
      refine wp_loop_rounds 1 ?_
      rw [rounds_succ]
      go_wp2
      go_ret
      exact ⟨rfl, q, HW.out⟩

end Go.Proofs.YtlijclghojfdpaaGreatDoor.Q
namespace Go.Proofs.YtlijclghojfdpaaGreatDoor.Q
open Go.RowKit Go.Proofs.YtlijclghojfdpaaGreatDoor.U

theorem Bk.draws {w : World} {N b : Nat} {L M : Value} {A turn done used : Nat} {ks : List Kl} (h : Bk w N b L M A turn done used ks) (q : Nat) : Bk (w.drewN q) N b L M A turn done used ks :=
  ⟨h.blk, owns_draws q h.ls, owns_draws q h.ms, fun k hk => owns_draws q (h.rows k hk), h.num, h.most, h.one⟩

set_option maxRecDepth 100000 in
set_option maxHeartbeats 400000 in
theorem bk_holds (w : World) (N b : Nat) (L M : Value) (A turn done used : Nat) (ks : List Kl) (h : Bk w N b L M A turn done used ks) :
    Calls Tryz.prog 36 #[.pointer (some ⟨b, 0, none⟩)] w fun e w' => e = .returned (.bool true) ∧ ∃ q, w' = w.drewN q := by
  have HK := hide h
  clear h
  go_enter Tryz.func36, Tryz.ntmps36
  go_wp2_with fail
  refine (bk_plain w N b L M A turn done used ks HK.out).mono ?_
  rintro e w1 ⟨rfl, q, rfl⟩
  have HB : Hid ((w.drewN q).heap[b]? = some (.cells (bkCells L M A turn done used) 50 (0, 0))) := HK.out.blk
  generalize hw : w.drewN q = w1 at *
  have HW := hide hw
  clear hw
  go_wp2_with fail
  refine (bk_kept w1 b L M A turn done used HB.out).mono ?_
  rintro e w2 ⟨rfl, rfl⟩
  go_wp2_with fail
  refine (bk_told _ b L M A turn done used HB.out).mono ?_
  rintro e w2 ⟨rfl, rfl⟩
  go_wp2_with fail
  refine (bk_held _ b L M A turn done used HB.out).mono ?_
  rintro e w2 ⟨rfl, rfl⟩
  go_wp2_with fail
  refine (bk_sent _ b L M A turn done used HB.out).mono ?_
  rintro e w2 ⟨rfl, rfl⟩
  go_wp2
  go_ret
  exact ⟨rfl, q, HW.out.symm⟩

set_option maxRecDepth 100000 in
set_option maxHeartbeats 400000 in
theorem bk_tight (w : World) (b : Nat) (L M : Value) (A turn done used n : Nat) (hu : used ≤ 16777216) (hn : n ≤ 1000000000000000) (h : w.heap[b]? = some (.cells (bkCells L M A turn done used) 50 (0, 0))) :
    Calls Tryz.prog 55 #[.pointer (some ⟨b, 0, none⟩), .int .i64 n] w fun e w' => (16777216 < used + n ∧ e = .returned (.bool true) ∧ w' = w) ∨ (¬ 16777216 < used + n ∧ e = .returned (.bool false) ∧ w' = w.setCell ⟨b, 56, none⟩ (.int .i64 ((used + n : Nat) : Int))) := by
  have c := bk_cell h 56 (.int .i64 (used : Int)) rfl
  have cf := bk_thaw h
  clear h
  have hs : (used : Int) + (n : Int) = ((used + n : Nat) : Int) := by omega
  have hs2 : used + n ≤ 2000000000000000 := by omega
  generalize used + n = s at *
  by_cases hb : 16777216 < s
  · have l1 : (16777216 : Int) < (s : Int) := by omega
    go_enter Tryz.func55, Tryz.ntmps55
    go_wp2
    go_ret
    show _ ∨ _
    exact Or.inl ⟨hb, rfl, rfl⟩
  · have l1 : ¬ (16777216 : Int) < (s : Int) := by omega
    go_enter Tryz.func55, Tryz.ntmps55
    go_wp2
    go_ret
    exact ⟨rfl, rfl⟩

end Go.Proofs.YtlijclghojfdpaaGreatDoor.Q
namespace Go.Proofs.YtlijclghojfdpaaGreatDoor.Q
open Go.RowKit Go.Proofs.YtlijclghojfdpaaGreatDoor.U

theorem Bk.keep {w w' : World} {N b : Nat} {L M : Value} {A turn done used : Nat} {ks : List Kl} {S : Nat → Prop} (h : Bk w N b L M A turn done used ks) (k : Kept S w w') (h1 : ¬ S b) (h2 : ∀ g, L.ownBlock = some g → ¬ S g) (h3 : ∀ g, M.ownBlock = some g → ¬ S g) (h4 : ∀ x ∈ ks, ∀ g, x.val.ownBlock = some g → ¬ S g) : Bk w' N b L M A turn done used ks :=
  ⟨(k.block b (lt_of_block h.blk) h1).trans h.blk, owns_kept' h.ls (fun g e => k.block g (owns_lt h.ls g e) (h2 g e)), owns_kept' h.ms (fun g e => k.block g (owns_lt h.ms g e) (h3 g e)), fun x hx => owns_kept' (h.rows x hx) (fun g e => k.block g (owns_lt (h.rows x hx) g e) (h4 x hx g e)), h.num, h.most, h.one⟩
theorem Bk.turned {w : World} {N b : Nat} {L M : Value} {A turn done used : Nat} {ks : List Kl} (h : Bk w N b L M A turn done used ks) (t : Nat) : Bk (w.setCell ⟨b, 54, none⟩ (.int .i64 (t : Int))) N b L M A t done used ks := by
  have hs : ∀ j, j ≠ b → (w.setCell ⟨b, 54, none⟩ (.int .i64 (t : Int))).heap[j]? = w.heap[j]? := fun j hj => Below.heap_setCell _ _ _ _ hj
  have hr : ∀ {z0 : Bool} {B0 n : Nat} {ty : TypeId} {v : Value} {xs : List Value}, ownsQ z0 w B0 ty 1 v n xs → 50 ≠ ty → ∀ g, v.ownBlock = some g → (w.setCell ⟨b, 54, none⟩ (.int .i64 (t : Int))).heap[g]? = w.heap[g]? := fun hv ht g e => hs g (fun e' => owns_ne hv h.blk ht (by rw [e, e']))
  exact ⟨by rw [block_set h.blk]; rfl, owns_kept' h.ls (hr h.ls (by decide)), owns_kept' h.ms (hr h.ms (by decide)), fun x hx => owns_kept' (h.rows x hx) (hr (h.rows x hx) (by decide)), h.num, h.most, h.one⟩
theorem Bk.usedUp {w : World} {N b : Nat} {L M : Value} {A turn done used : Nat} {ks : List Kl} (h : Bk w N b L M A turn done used ks) (t : Nat) : Bk (w.setCell ⟨b, 56, none⟩ (.int .i64 (t : Int))) N b L M A turn done t ks := by
  have hs : ∀ j, j ≠ b → (w.setCell ⟨b, 56, none⟩ (.int .i64 (t : Int))).heap[j]? = w.heap[j]? := fun j hj => Below.heap_setCell _ _ _ _ hj
  have hr : ∀ {z0 : Bool} {B0 n : Nat} {ty : TypeId} {v : Value} {xs : List Value}, ownsQ z0 w B0 ty 1 v n xs → 50 ≠ ty → ∀ g, v.ownBlock = some g → (w.setCell ⟨b, 56, none⟩ (.int .i64 (t : Int))).heap[g]? = w.heap[g]? := fun hv ht g e => hs g (fun e' => owns_ne hv h.blk ht (by rw [e, e']))
  exact ⟨by rw [block_set h.blk]; rfl, owns_kept' h.ls (hr h.ls (by decide)), owns_kept' h.ms (hr h.ms (by decide)), fun x hx => owns_kept' (h.rows x hx) (hr (h.rows x hx) (by decide)), h.num, h.most, h.one⟩

theorem Bk.more {w w' : World} {N b : Nat} {L M L' M' : Value} {A turn done used : Nat} {ks : List Kl} {x : Kl} (h : Bk w N b L M A turn done used ks) (k : Kept (fun i => i = b ∨ some i = L.ownBlock ∨ some i = M.ownBlock) w w') (hb : w'.heap[b]? = some (.cells (bkCells L' M' A turn done used) 50 (0, 0)))
    (hl : ownsQ false w' N 54 1 L' (ks.length + 1) ((ks.map fun k => k.val) ++ [x.val])) (hm : ownsQ false w' N 3 1 M' (ks.length + 1) ((ks.map fun k => Value.int .i64 (k.m : Int)) ++ [.int .i64 (x.m : Int)])) (hx : ownsQ true w N 5 1 x.val x.l (vals (mks x.m x.l))) (hn : x.m ≤ 1000000000 ∧ x.l ≤ 100000000000) (hc : ks.length + 1 ≤ 1000000000)
    (ho : ∀ y ∈ ks, ∀ g, y.val.ownBlock = some g → x.val.ownBlock = some g → y.m = x.m) : Bk w' N b L' M' A turn done used (ks ++ [x]) := by
  have hr : ∀ {n : Nat} {v : Value} {xs : List Value}, ownsQ true w N 5 1 v n xs → ownsQ true w' N 5 1 v n xs := fun hv => owns_kept' hv (fun g e => k.block g (owns_lt hv g e) (by
    rintro (e' | e' | e')
    · subst e'; exact owns_ne hv h.blk (by decide) e
    · exact rows_far h.ls hv (by decide) g e'.symm e
    · exact rows_far h.ms hv (by decide) g e'.symm e))
  refine ⟨hb, by simpa using hl, by simpa using hm, fun y hy => ?_, fun y hy => ?_, by simpa using hc, fun y hy z hz g e1 e2 => ?_⟩
  · rcases List.mem_append.1 hy with h' | h'
    · exact hr (h.rows y h')
    · simp at h'; subst h'; exact hr hx
  · rcases List.mem_append.1 hy with h' | h'
    · exact h.num y h'
    · simp at h'; subst h'; exact hn
  · rcases List.mem_append.1 hy with h' | h' <;> rcases List.mem_append.1 hz with h'' | h''
    · exact h.one y h' z h'' g e1 e2
    · simp at h''; subst h''; exact ho y h' g e1 e2
    · simp at h'; subst h'; exact (ho z h'' g e2 e1).symm
    · simp at h' h''; subst h'; subst h''; rfl

end Go.Proofs.YtlijclghojfdpaaGreatDoor.Q
