import Derived.Test.YtajadmkacnfbgaaGreatRbE
namespace Go.Proofs.YtajadmkacnfbgaaGreat.RB
open Go.RowKit Go.Proofs.YtajadmkacnfbgaaGreat

def mk3 (m : Nat) : Tri := ⟨1000 + (m : Int), 0, 0⟩
def mrow (m l : Nat) : List Value := rcells (List.replicate l (mk3 m))
theorem mrow_len (m l : Nat) : (mrow m l).length = l * 3 := by rw [mrow, rcells_len, List.length_replicate]
theorem mrow_snoc (m l : Nat) : mrow m (l + 1) = mrow m l ++ [.int .i64 (1000 + (m : Int)), .int .i64 0, .int .i64 0] := by
  rw [mrow, List.replicate_succ', rcells_snoc]
  rfl
theorem mrow_get (m l i : Nat) (h : i < l) (j : Nat) (v : Value) (hv : [Value.int .i64 (1000 + (m : Int)), .int .i64 0, .int .i64 0][j]? = some v) : (mrow m l)[i * 3 + j]? = some v :=
  rcells_get _ i (mk3 m) (List.getElem?_replicate_of_lt h) j v hv

set_option maxRecDepth 100000 in
set_option maxHeartbeats 400000 in
theorem mark_any (w : World) (m : Nat) (hm : m ≤ 1000000000000000) :
    Calls Tryz.prog 20 #[.int .i64 m] w fun e w' => e = .returned (.agg #[.int .i64 (1000 + (m : Int)), .int .i64 0, .int .i64 0]) ∧ w' = w.alloc (.cells #[.int .i64 (1000 + (m : Int)), .int .i64 0, .int .i64 0] 70) := by
  go_enter Tryz.func20, Tryz.ntmps20
  go_wp2
  refine bodyPost_ret (results_cell_row rfl _ _ w.heap.size 70 #[.int .i64 (1000 + (m : Int)), .int .i64 0, .int .i64 0] (0, 0) _ rfl (heap_alloc_new _ _) Tryz.underlying70 rfl (by kernel_rfl)) rfl ?_
  exact ⟨rfl, rfl⟩

/-- A list that is kept, with its mark. -/
structure Kl where
  p : Option Addr
  l : Nat
  c : Nat
  m : Nat
def Kl.val (k : Kl) : Value := .slice k.p k.l k.c
/-- A BOOK THAT KEEPS LISTS OF RIGHTS, each full of its mark; lists in one block have one mark. -/
structure Bk (wr : World) (N b : Nat) (L M : Value) (A turn done used : Nat) (ks : List Kl) : Prop where
  blk : wr.heap[b]? = some (.cells (bkCells L M A turn done used) 45 (0, 0))
  ls : wr.ownsRow N 50 1 L ks.length (ks.map fun k => k.val)
  ms : wr.ownsRow N 3 1 M ks.length (ks.map fun k => .int .i64 (k.m : Int))
  rows : ∀ k ∈ ks, wr.ownsRow N 70 3 k.val k.l (mrow k.m k.l)
  num : ∀ k ∈ ks, k.m ≤ 1000000000000000 ∧ k.l ≤ 100000000000
  most : ks.length ≤ 1000000000
  one : ∀ k ∈ ks, ∀ k' ∈ ks, ∀ g, k.val.ownBlock = some g → k'.val.ownBlock = some g → k.m = k'.m

set_option maxRecDepth 100000 in
set_option maxHeartbeats 4000000 in
theorem bk_told (w : World) (N b : Nat) (L M : Value) (A turn done used : Nat) (ks : List Kl) (h : Bk w N b L M A turn done used ks) :
    Calls Tryz.prog 34 #[.pointer (some ⟨b, 0, none⟩)] w fun e w' => e = .returned (.bool true) ∧ Below w.heap.size w w' := by
  have HK := hide h
  have c18 := bk_cell h.blk 18 (.slice none 0 0) rfl
  have c21 := bk_cell h.blk 21 (.slice none 0 0) rfl
  have c24 := bk_cell h.blk 24 (.slice none 0 0) rfl
  have q0 := bk_cell h.blk 27 L rfl
  have q1 := bk_cell h.blk 28 M rfl
  obtain ⟨lp, lc, hL⟩ := slice_form h.ls
  obtain ⟨mp, mc, hM⟩ := slice_form h.ms
  have hmost := h.most
  have hbl := lt_of_block h.blk
  subst hL
  subst hM
  clear h
  go_enter Tryz.func34, Tryz.ntmps34
  go_wp2
  refine wp_loop_rounds 1 ?_
  rw [rounds_succ]
  go_wp2
  refine wp_loop_rounds 1 ?_
  rw [rounds_succ]
  go_wp2
  refine wp_loop_rounds 1 ?_
  rw [rounds_succ]
  go_wp2
  clear c18 c21 c24
  have HQ0 := hide q0
  have HQ1 := hide q1
  clear q0 q1
  go_loopw [9] (fun i wr => ∃ j : Nat, j ≤ ks.length ∧ i = .int .i64 j ∧ Hid (Below w.heap.size w wr)) (fun i _ => ks.length - (intOf i).toNat)
  case atStart => exact ⟨0, Nat.zero_le _, rfl, Below.refl _ _⟩
  case round =>
    obtain ⟨j, hj, rfl, HB⟩ := hrel
    have e0 : wr.cell? ⟨b, 27, none⟩ = some (.slice lp ks.length lc) := (HB.out.cell (p := ⟨b, 27, none⟩) hbl).trans HQ0.out
    by_cases hlt : j < ks.length
    · have hop : ks[j]? = some (ks[j]'hlt) := List.getElem?_eq_getElem _
      obtain ⟨gl, _, hgl, cl0⟩ := row_cell HK.out.ls (k := j) (a := (ks[j]'hlt).val) (by simp [hop])
      obtain ⟨gm, _, hgm, cm0⟩ := row_cell HK.out.ms (k := j) (a := .int .i64 ((ks[j]'hlt).m : Int)) (by simp [hop])
      cases hgl
      cases hgm
      have hll := owns_lt HK.out.ls gl rfl
      have hml := owns_lt HK.out.ms gm rfl
      have HR := hide (HK.out.rows _ (List.mem_of_getElem? hop))
      obtain ⟨n1, n2⟩ := HK.out.num _ (List.mem_of_getElem? hop)
      generalize ks[j]'hlt = kl at *
      obtain ⟨p, l, c, m⟩ := kl
      simp only [Kl.val] at cl0 cm0 HR n1 n2
      clear hop
      have l1 : (j : Int) < (ks.length : Int) := by omega
      have l2 : (0 : Int) ≤ (j : Int) := by omega
      have HL0 := hide cl0
      have HM0 := hide cm0
      clear cl0 cm0
      have HMk := hide (fun w => mark_any w m n1)
      go_wp2
      clear e0
      go_loopw [10] (fun i wr => ∃ i' : Nat, i' ≤ l ∧ i = .int .i64 i' ∧ Hid (Below w.heap.size w wr)) (fun i _ => l - (intOf i).toNat)
      case atStart => exact ⟨0, Nat.zero_le _, rfl, HB⟩
      case round =>
        clear HB
        obtain ⟨i, hi, rfl, HB⟩ := hrel
        have e0 : wr.cell? ⟨b, 27, none⟩ = some (.slice (some ⟨gl, 0, none⟩) ks.length lc) := (HB.out.cell (p := ⟨b, 27, none⟩) hbl).trans HQ0.out
        have e1 : wr.cell? ⟨b, 28, none⟩ = some (.slice (some ⟨gm, 0, none⟩) ks.length mc) := (HB.out.cell (p := ⟨b, 28, none⟩) hbl).trans HQ1.out
        have cl : wr.cell? ⟨gl, j, none⟩ = some (.slice p l c) := (HB.out.cell (p := ⟨gl, j, none⟩) hll).trans HL0.out
        have cm : wr.cell? ⟨gm, j, none⟩ = some (.int .i64 (m : Int)) := (HB.out.cell (p := ⟨gm, j, none⟩) hml).trans HM0.out
        by_cases hil : i < l
        · obtain ⟨gx, _, hgx, cx0⟩ := row_cell HR.out (mrow_get m l i hil 0 _ rfl)
          cases hgx
          obtain ⟨_, _, e2, cx1⟩ := row_cell HR.out (mrow_get m l i hil 1 _ rfl)
          cases e2
          obtain ⟨_, _, e3, cx2⟩ := row_cell HR.out (mrow_get m l i hil 2 _ rfl)
          cases e3
          have hgl2 := owns_lt HR.out gx rfl
          rw [Nat.add_zero] at cx0
          have d0 : wr.cell? ⟨gx, i * 3, none⟩ = some (.int .i64 (1000 + (m : Int))) := (HB.out.cell (p := ⟨gx, i * 3, none⟩) hgl2).trans cx0
          have d1 : wr.cell? ⟨gx, i * 3 + 1, none⟩ = some (.int .i64 0) := (HB.out.cell (p := ⟨gx, i * 3 + 1, none⟩) hgl2).trans cx1
          have d2 : wr.cell? ⟨gx, i * 3 + 2, none⟩ = some (.int .i64 0) := (HB.out.cell (p := ⟨gx, i * 3 + 2, none⟩) hgl2).trans cx2
          have l3 : (i : Int) < (l : Int) := by omega
          have l4 : (0 : Int) ≤ (i : Int) := by omega
          have hws := HB.out.size
          have s1 : b < wr.heap.size := by omega
          have s2 : gl < wr.heap.size := by omega
          have s3 : gm < wr.heap.size := by omega
          have s4 : gx < wr.heap.size := by omega
          obtain ⟨x0, hx0⟩ : ∃ x0 : Int, 1000 + (m : Int) = x0 := ⟨_, rfl⟩
          rw [hx0] at d0 HMk
          have HX0 := hide hx0
          clear cx0 cx1 cx2 hx0
          go_upto_region 31 with (fail)
          have HBd : Hid (Below w.heap.size w (wr.alloc (.cells #[.int .i64 x0, .int .i64 0, .int .i64 0] 70))) := HB.out.alloc hws _
          go_region_held3 (fun w' => w'.cell? ⟨b, 27, none⟩ = some (.slice (some ⟨gl, 0, none⟩) ks.length lc) ∧ w'.cell? ⟨b, 28, none⟩ = some (.slice (some ⟨gm, 0, none⟩) ks.length mc) ∧ w'.cell? ⟨gl, j, none⟩ = some (.slice (some ⟨gx, 0, none⟩) l c) ∧ w'.cell? ⟨gm, j, none⟩ = some (.int .i64 (m : Int)) ∧ w'.cell? ⟨gx, i * 3, none⟩ = some (.int .i64 x0) ∧ w'.cell? ⟨gx, i * 3 + 1, none⟩ = some (.int .i64 0) ∧ w'.cell? ⟨gx, i * 3 + 2, none⟩ = some (.int .i64 0)) (go_keep) (first | (go_at_call 20; refine (HMk.out _).mono ?_; rintro e w3 ⟨rfl, rfl⟩) | fail)
          go_wp2
          go_roundw
          case rel => exact ⟨i + 1, by omega, by go_num, by first | exact HBd.out.drew | exact HBd⟩
          case measure => simp [intOf]; omega
        · have l3 : ¬ (i : Int) < (l : Int) := by omega
          go_wp2
          go_roundw
          case rel => exact ⟨j + 1, by omega, by go_num, HB⟩
          case measure => simp [intOf]; omega
    · have l1 : ¬ (j : Int) < (ks.length : Int) := by omega
      go_wp2
      go_ret
      exact ⟨rfl, HB.out⟩
end Go.Proofs.YtajadmkacnfbgaaGreat.RB
