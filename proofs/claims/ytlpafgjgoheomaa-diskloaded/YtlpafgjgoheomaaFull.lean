import Derived.Test.YtlpafgjgoheomaaFullP
import Derived.Test.YtlpafgjgoheomaaOpn
import Derived.Test.YtlpafgjgoheomaaRoom
namespace Go.Proofs.Ytlpafgjgoheomaa
open Go.RowKit Go.Maps

set_option maxRecDepth 100000 in
set_option maxHeartbeats 400000 in
theorem counted_any (w : World) (e : Nat) : Calls Try.prog 31 #[.int .i64 (e : Int)] w fun r w' => r = .returned (.bool (decide (cnt e = 1))) ∧ w' = w := by
  by_cases h0 : e = 0
  · subst h0
    go_enter Try.func31, Try.ntmps31
    go_wp2
    go_ret
    exact ⟨rfl, rfl⟩
  by_cases h1 : e = 44
  · subst h1
    go_enter Try.func31, Try.ntmps31
    go_wp2
    go_ret
    exact ⟨rfl, rfl⟩
  by_cases h2 : e = 45
  · subst h2
    go_enter Try.func31, Try.ntmps31
    go_wp2
    go_ret
    exact ⟨rfl, rfl⟩
  have h0' : ¬ (e : Int) = 0 := by omega
  have h1' : ¬ (e : Int) = 44 := by omega
  have h2' : ¬ (e : Int) = 45 := by omega
  have hc : decide (cnt e = 1) = false := by unfold cnt; rw [if_neg (by omega)]; rfl
  rw [hc]
  have hx : ((e : Int) == 0 || (e : Int) == 44 || (e : Int) == 45) = false := by simp [h1', h2', h0]
  clear hc h0 h1 h2
  go_enter Try.func31, Try.ntmps31
  go_wp2
  go_ret
  exact ⟨rfl, rfl⟩
theorem cnt_or (e : Nat) : cnt e = 0 ∨ cnt e = 1 := by unfold cnt; split <;> simp

theorem kp_new {w w' : World} {K : Knd} {b : Nat} (k : Nat × Nat) (h : Below w.heap.size w w') (hb : w.heap.size ≤ b) : Kp (fun _ => False) K (newK (ext K w.heap.size (0, 0)) b k) w w' :=
  ⟨h.os, h.tape, h.output, h.size, fun c hc => by unfold newK; rw [if_neg (by omega), ext_old _ _ hc], fun c hc _ => h.block c hc⟩

/-- What lies beside the disks. -/
structure Lc (W w : World) (K : Knd) (sa : Option Addr) (n c : Nat) (ops : List Opm) (bx : Obj) : Prop where
  ops : Opk w K sa n c ops
  old : ∀ b, b < W.heap.size → K b = (0, 0)
  bel : Below W.heap.size W w
  box : w.heap[W.heap.size]? = some bx
  kbx : K W.heap.size = (0, 0)
theorem Lc.kept {p : Nat × Nat → Prop} {W w w' : World} {K K' : Knd} {sa : Option Addr} {n c : Nat} {ops : List Opm} {bx : Obj} (h : Lc W w K sa n c ops bx) (hk : Kp p K K' w w') (hp : ¬ p (0, 0)) : Lc W w' K' sa n c ops bx :=
  have hl := lt_of_block h.box
  ⟨h.ops.kept hk hp, fun b hb => (hk.same b (Nat.lt_of_lt_of_le hb h.bel.size)).trans (h.old b hb), hk.below h.bel (fun b hb => by rw [h.old b hb]; exact hp), (hk.block _ hl (by rw [h.kbx]; exact hp)).trans h.box, (hk.same _ hl).trans h.kbx⟩
/-- Two disks and the steps. -/
structure Lq (W w : World) (K : Knd) (a b : Nat) (A B : St) (k : Nat) (sa : Option Addr) (n c : Nat) (ops : List Opm) (bx : Obj) : Prop where
  da : Dk w K 1 a A
  db : Dk w K 2 b B
  ia : Inv A
  ib : Inv B
  za : Sz A k
  zb : Sz B k
  lc : Lc W w K sa n c ops bx
theorem Lq.below {W w w' : World} {K : Knd} {a b : Nat} {A B : St} {k : Nat} {sa : Option Addr} {n c : Nat} {ops : List Opm} {bx : Obj} (h : Lq W w K a b A B k sa n c ops bx) (hb : Below w.heap.size w w') : Lq W w' (ext K w.heap.size (0, 0)) a b A B k sa n c ops bx :=
  have kb := kp_below hb (fun _ => False) K (0, 0)
  ⟨h.da.kept kb (fun _ h => h), h.db.kept kb (fun _ h => h), h.ia, h.ib, h.za, h.zb, h.lc.kept kb (fun h => h)⟩
theorem Lq.drewN {W w : World} {K : Knd} {a b : Nat} {A B : St} {k : Nat} {sa : Option Addr} {n c : Nat} {ops : List Opm} {bx : Obj} (h : Lq W w K a b A B k sa n c ops bx) (m : Nat) : Lq W (w.drewN m) K a b A B k sa n c ops bx :=
  have kb := (Kp.refl (fun _ => False) K w).drewN m
  ⟨h.da.kept kb (fun _ h => h), h.db.kept kb (fun _ h => h), h.ia, h.ib, h.za, h.zb, h.lc.kept kb (fun h => h)⟩
theorem Lq.drew {W w : World} {K : Knd} {a b : Nat} {A B : St} {k : Nat} {sa : Option Addr} {n c : Nat} {ops : List Opm} {bx : Obj} (h : Lq W w K a b A B k sa n c ops bx) : Lq W w.drew K a b A B k sa n c ops bx :=
  have kb := (Kp.refl (fun _ => False) K w).drew
  ⟨h.da.kept kb (fun _ h => h), h.db.kept kb (fun _ h => h), h.ia, h.ib, h.za, h.zb, h.lc.kept kb (fun h => h)⟩
theorem Lq.playedA {W w w' : World} {K K' : Knd} {a b : Nat} {A A' B : St} {k k' : Nat} {sa : Option Addr} {n c : Nat} {ops : List Opm} {bx : Obj} (h : Lq W w K a b A B k sa n c ops bx) (hd : Dk w' K' 1 a A') (hv : Inv A') (hz : Sz A' k') (hkk : k ≤ k') (hk : Kp (Ow 1) K K' w w') : Lq W w' K' a b A' B k' sa n c ops bx :=
  ⟨hd, h.db.kept hk (by simp), hv, h.ib, hz, h.zb.mono hkk, h.lc.kept hk (by simp)⟩
theorem Lq.playedB {W w w' : World} {K K' : Knd} {a b : Nat} {A B B' : St} {k k' : Nat} {sa : Option Addr} {n c : Nat} {ops : List Opm} {bx : Obj} (h : Lq W w K a b A B k sa n c ops bx) (hd : Dk w' K' 2 b B') (hv : Inv B') (hz : Sz B' k') (hkk : k ≤ k') (hk : Kp (Ow 2) K K' w w') : Lq W w' K' a b A B' k' sa n c ops bx :=
  ⟨h.da.kept hk (by simp), hd, h.ia, hv, h.za.mono hkk, hz, h.lc.kept hk (by simp)⟩
theorem blk5 {w : World} {b : Nat} {v0 v1 v2 v3 v4 : Value} {t : TypeId} {f : Nat × Nat} (h : w.heap[b]? = some (.cells #[v0, v1, v2, v3, v4] t f)) :
    w.cell? ⟨b, 0, none⟩ = some v0 ∧ w.cell? ⟨b, 1, none⟩ = some v1 ∧ w.cell? ⟨b, 2, none⟩ = some v2 ∧ w.cell? ⟨b, 3, none⟩ = some v3 ∧ w.cell? ⟨b, 4, none⟩ = some v4 :=
  ⟨by simp [World.cell?, h], by simp [World.cell?, h], by simp [World.cell?, h], by simp [World.cell?, h], by simp [World.cell?, h]⟩
theorem opall {w : World} {b : Nat} {q : Opm} {t : TypeId} {f : Nat × Nat} (h : w.heap[b]? = some (.cells (opc q).toArray t f)) :
    w.cell? ⟨b, 0, none⟩ = some (.int .i64 q.x.kind) ∧ w.cell? ⟨b, 1, none⟩ = some (.int .i64 q.on) ∧ w.cell? ⟨b, 2, none⟩ = some (.int .i64 q.x.n) ∧ w.cell? ⟨b, 3, none⟩ = some (.string ⟨q.x.name.toArray⟩) ∧ w.cell? ⟨b, 4, none⟩ = some (.string ⟨q.x.to.toArray⟩) ∧ w.cell? ⟨b, 5, none⟩ = some (.slice q.bp q.x.b.length q.bc) ∧
    w.cell? ⟨b, 6, none⟩ = some (.int .i64 q.p1) ∧ w.cell? ⟨b, 7, none⟩ = some (.int .i64 q.p2) ∧ w.cell? ⟨b, 8, none⟩ = some (.int .i64 q.p3) ∧ w.cell? ⟨b, 9, none⟩ = some (.slice q.kp q.kl q.kc) :=
  ⟨by simp [World.cell?, h, opc], by simp [World.cell?, h, opc], by simp [World.cell?, h, opc], by simp [World.cell?, h, opc], by simp [World.cell?, h, opc], by simp [World.cell?, h, opc], by simp [World.cell?, h, opc], by simp [World.cell?, h, opc], by simp [World.cell?, h, opc], by simp [World.cell?, h, opc]⟩
/-- The last step. -/
def zOp (g : Nat) : Opm := ⟨⟨1, 0, [122], [], [101, 110, 100]⟩, 0, some ⟨g, 0, none⟩, 3, 0, 0, 0, none, 0, 0⟩
/-- The steps, with the last one. -/
theorem ops_end {W w5 w6 w7 : World} {K5 : Knd} {oa : Option Addr} {N oc g' cap' : Nat} {fo : List Opm} (hB5 : Below W.heap.size W w5) (hK : ∀ x, x < W.heap.size + 1 → K5 x = (0, 0)) (hB6 : Below w5.heap.size w5 w6) (hR6 : w6.ownsRow w5.heap.size 57 10 (.slice oa N oc) N (opvs fo)) (hN : fo.length = N) (hFo : ∀ q ∈ fo, OpOk W K0 q)
    (ho : w7.ownsRow w5.heap.size 57 10 (.slice (some ⟨g', 0, none⟩) (N + 1) cap') (N + 1) (opvs fo ++ opc (zOp w6.heap.size))) (hg : ((w6.alloc (.cells #[.int .u8 101, .int .u8 110, .int .u8 100] 5 (3, 4))).alloc (.cells (opc (zOp w6.heap.size)).toArray 57)).grownBy w7 (Value.slice oa N oc).ownBlock) :
    Below w5.heap.size w5 w7 ∧ Opk w7 (ext K5 w5.heap.size (0, 0)) (some ⟨g', 0, none⟩) (N + 1) cap' (fo ++ [zOp w6.heap.size]) := by
  have hs6 := hB6.size
  have hs5 := hB5.size
  have hown : ∀ g2, (Value.slice oa N oc).ownBlock = some g2 → w5.heap.size ≤ g2 ∧ g2 < w6.heap.size := fun g2 e => by
    have h1 := rk_lt hR6 e
    rcases hR6.2 with ⟨e1, _⟩ | ⟨g3, _, _, e1, e2, _⟩
    · rw [e1] at e; simp [Value.ownBlock] at e
    · rw [e1] at e; simp [Value.ownBlock] at e; omega
  have hB7 : Below w5.heap.size w5 w7 := ((hB6.alloc hs6 _).alloc (by simp; omega) _).grown hg (by simp; omega) (fun g2 e => (hown g2 e).1)
  have hsz := hg.size
  have hkp : Kp (fun _ => False) K0 (ext K5 w5.heap.size (0, 0)) W w7 := ⟨(hB5.trans (hB7.mono hs5)).os, (hB5.trans (hB7.mono hs5)).tape, (hB5.trans (hB7.mono hs5)).output, (hB5.trans (hB7.mono hs5)).size, fun b hb => by rw [ext_old _ _ (by omega), hK b (by omega)], fun b hb _ => (hB5.trans (hB7.mono hs5)).block b hb⟩
  have hlt : w6.heap.size < w7.heap.size := by
    have : ((w6.alloc (.cells #[.int .u8 101, .int .u8 110, .int .u8 100] 5 (3, 4))).alloc (.cells (opc (zOp w6.heap.size)).toArray 57)).heap.size = w6.heap.size + 2 := by simp
    omega
  have hblk : w7.heap[w6.heap.size]? = (w6.alloc (.cells #[.int .u8 101, .int .u8 110, .int .u8 100] 5 (3, 4))).heap[w6.heap.size]? :=
    (hg.block w6.heap.size (by simp; omega) (fun e => by have := hown _ e.symm; omega)).trans (Below.heap_alloc _ _ _ (by simp))
  refine ⟨hB7, ⟨⟨by rw [opvs_snoc]; exact ho.1, ?_⟩, fun g e => ?_⟩, by simp [hN], fun q hq => ?_⟩
  · rw [opvs_snoc]
    refine ho.2.imp id ?_
    rintro ⟨g, cap, cur, h1, _, r⟩
    exact ⟨g, cap, cur, h1, Nat.zero_le _, r⟩
  · refine ext_new _ _ ?_
    rcases ho.2 with ⟨e1, _⟩ | ⟨g2, _, _, e1, e2, _⟩
    · rw [e1] at e; simp [Value.ownBlock] at e
    · rw [e1] at e; simp [Value.ownBlock] at e; omega
  · rcases List.mem_append.1 hq with e | e
    · exact (hFo q e).kept (p := fun _ => False) hkp (fun h => h)
    · simp only [List.mem_cons, List.not_mem_nil, or_false] at e
      subst e
      refine ⟨by simp [zOp], by simp [zOp], by simp [zOp], ?_, Or.inr (fun g o e => ?_), by simp [zOp]⟩
      · exact bytes_kept (lit3 w6 101 110 100 (by decide) (3, 4)) (by simp; omega) (fun g o e hg2 => by cases e; exact hblk)
      · cases e; exact ⟨ext_new _ _ hs6, hlt⟩

end Go.Proofs.Ytlpafgjgoheomaa
