import Derived.Test.YtagioadkgalbiaaNDrain
namespace Go.Proofs.Ytagioadkgalbiaa
open Go.RowKit Go.Maps

/-- The moves, as they came in. -/
structure Mvs (w : World) (sp : Option Addr) (mv : List (Int × Int)) : Prop where
  lie : mv = [] ∨ ∃ g o, sp = some ⟨g, o, none⟩ ∧ g < w.heap.size ∧ ∀ j d a, mv[j]? = some (d, a) → w.cell? ⟨g, o + j * 2, none⟩ = some (.int .i64 d) ∧ w.cell? ⟨g, o + j * 2 + 1, none⟩ = some (.int .i64 a)
/-- WHAT NetKeeps HOLDS: the net, the numbers beside it, its argument's box. -/
structure Ks (w wr : World) (K : Knd) (nb R L : Nat) (N : Nt) (rv : Value) (row : List Nat) (bx : Obj) : Prop where
  net : Nk wr K 1 nb N
  eq : N.row = row.map msOf
  room : N.room = R
  lost : N.lost = L
  le : row.length ≤ R
  small : ∀ x ∈ row, x < 300
  row : Rk wr K (2, 0) 3 1 rv row.length (ints row)
  box : wr.heap[w.heap.size]? = some bx
  kb : K w.heap.size = (3, 0)
  bel : Below w.heap.size w wr
  old : ∀ b, b < w.heap.size → K b = (0, 0)
theorem pnet_no {k : Nat × Nat} (h : k.1 ≠ 1) : ¬ PNet 1 k := by rintro (e | e) <;> (subst e; exact h rfl)
theorem Ks.turned {w wr w' : World} {K K' : Knd} {nb R L L' : Nat} {N N' : Nt} {rv : Value} {row : List Nat} {bx : Obj} (h : Ks w wr K nb R L N rv row bx) (hk : Kp (PNet 1) K K' wr w') (hn : Nk w' K' 1 nb N') (he : N'.row = N.row) (hr : N'.room = N.room) (hl : N'.lost = L') : Ks w w' K' nb R L' N' rv row bx :=
  have hb := lt_of_block h.box
  ⟨hn, he.trans h.eq, hr.trans h.room, hl, h.le, h.small, h.row.kept hk (pnet_no (by decide)), (hk.block _ hb (by rw [h.kb]; exact pnet_no (by decide))).trans h.box, (hk.same _ hb).trans h.kb, hk.below h.bel (fun b hb => by rw [h.old b hb]; exact pnet_no (by decide)), fun b hb => (hk.same b (Nat.lt_of_lt_of_le hb h.bel.size)).trans (h.old b hb)⟩
theorem Ks.below {w wr w' : World} {K : Knd} {nb R L : Nat} {N : Nt} {rv : Value} {row : List Nat} {bx : Obj} (h : Ks w wr K nb R L N rv row bx) (hb : Below wr.heap.size wr w') : Ks w w' (ext K wr.heap.size (0, 0)) nb R L N rv row bx :=
  h.turned (kp_below hb _ _ _) (h.net.kept (kp_below hb (fun _ => False) _ _) (fun _ h => h)) rfl rfl h.lost
/-- .. while the net has a message more or less than the numbers. -/
structure Kt (w wr : World) (K : Knd) (nb R L : Nat) (N : Nt) (rv : Value) (row row' : List Nat) (bx : Obj) : Prop where
  net : Nk wr K 1 nb N
  eq : N.row = row'.map msOf
  room : N.room = R
  lost : N.lost = L
  le : row'.length ≤ R
  small : ∀ x ∈ row', x < 300
  row : Rk wr K (2, 0) 3 1 rv row.length (ints row)
  box : wr.heap[w.heap.size]? = some bx
  kb : K w.heap.size = (3, 0)
  bel : Below w.heap.size w wr
  old : ∀ b, b < w.heap.size → K b = (0, 0)
theorem Ks.tn {w wr w' : World} {K K' : Knd} {nb R L : Nat} {N N' : Nt} {rv : Value} {row : List Nat} {bx : Obj} (h : Ks w wr K nb R L N rv row bx) (hk : Kp (PNet 1) K K' wr w') (hn : Nk w' K' 1 nb N') (row' : List Nat) (he : N'.row = row'.map msOf) (hr : N'.room = N.room) (hl : N'.lost = N.lost) (hle : row'.length ≤ R) (hs : ∀ x ∈ row', x < 300) : Kt w w' K' nb R L N' rv row row' bx :=
  have hb := lt_of_block h.box
  ⟨hn, he, hr.trans h.room, hl.trans h.lost, hle, hs, h.row.kept hk (pnet_no (by decide)), (hk.block _ hb (by rw [h.kb]; exact pnet_no (by decide))).trans h.box, (hk.same _ hb).trans h.kb, hk.below h.bel (fun b hb => by rw [h.old b hb]; exact pnet_no (by decide)), fun b hb => (hk.same b (Nat.lt_of_lt_of_le hb h.bel.size)).trans (h.old b hb)⟩
theorem Kt.below {w wr w' : World} {K : Knd} {nb R L : Nat} {N : Nt} {rv : Value} {row row' : List Nat} {bx : Obj} (h : Kt w wr K nb R L N rv row row' bx) (hb : Below wr.heap.size wr w') : Kt w w' (ext K wr.heap.size (0, 0)) nb R L N rv row row' bx :=
  have hl := lt_of_block h.box
  have hk := kp_below hb (fun _ => False) K (0, 0)
  ⟨h.net.kept hk (fun _ h => h), h.eq, h.room, h.lost, h.le, h.small, h.row.kept hk (fun h => h), (hk.block _ hl (fun h => h)).trans h.box, (hk.same _ hl).trans h.kb, hk.below h.bel (fun _ _ h => h), fun b hb => (hk.same b (Nat.lt_of_lt_of_le hb h.bel.size)).trans (h.old b hb)⟩
/-- The numbers are brought up to the net: a row of its own, new or grown. -/
theorem Kt.up {w wr w' : World} {K : Knd} {nb R L : Nat} {N : Nt} {rv rv' : Value} {row row' : List Nat} {bx : Obj} (h : Kt w wr K nb R L N rv row row' bx) (ho : w'.ownsRow 0 3 1 rv' row'.length (ints row')) (hg : wr.grownBy w' rv.ownBlock) (hat : ∀ g, rv'.ownBlock = some g → rv.ownBlock = some g ∨ wr.heap.size ≤ g) : Ks w w' (ext K wr.heap.size (2, 0)) nb R L N rv' row' bx := by
  have hl := lt_of_block h.box
  have hk := kp_grown hg K (2, 0) (2, 0) (fun k => k = (2, 0)) (fun g e => h.row.kind g e) rfl
  refine ⟨h.net.kept hk (by simp), h.eq, h.room, h.lost, h.le, h.small, ⟨ho, fun g e => ?_⟩, (hk.block _ hl (by rw [h.kb]; simp)).trans h.box, (hk.same _ hl).trans h.kb, hk.below h.bel (fun b hb => by rw [h.old b hb]; simp), fun b hb => (hk.same b (Nat.lt_of_lt_of_le hb h.bel.size)).trans (h.old b hb)⟩
  rcases hat g e with e2 | e2
  · exact (hk.same g (rk_lt h.row.own e2)).trans (h.row.kind g e2)
  · exact ext_new K _ e2
theorem Ks.has {w wr : World} {K : Knd} {nb R L : Nat} {N : Nt} {rv : Value} {row : List Nat} {bx : Obj} (h : Ks w wr K nb R L N rv row bx) (z : Int) : N.has z = (decide (0 ≤ z) && decide (z < (row.length : Int))) := by
  unfold Nt.has; rw [h.eq, List.length_map]
theorem Ks.adds {w wr : World} {K : Knd} {nb R L : Nat} {N : Nt} {rv : Value} {row : List Nat} {bx : Obj} (h : Ks w wr K nb R L N rv row bx) : N.adds = decide (row.length < R) := by
  unfold Nt.adds; rw [h.eq, List.length_map, h.room]
theorem Ks.at {w wr : World} {K : Knd} {nb R L : Nat} {N : Nt} {rv : Value} {row : List Nat} {bx : Obj} (h : Ks w wr K nb R L N rv row bx) {j x : Nat} (hx : row[j]? = some x) : N.row[j]? = some (msOf x) := by
  rw [h.eq, List.getElem?_map, hx]; rfl
theorem Ks.cut {w wr : World} {K : Knd} {nb R L : Nat} {N : Nt} {rv : Value} {row : List Nat} {bx : Obj} (h : Ks w wr K nb R L N rv row bx) (j : Nat) (hj : j < row.length) : (N.dropped (j : Int)).row = (row.take j ++ row.drop (j + 1)).map msOf ∧ (N.dropped (j : Int)).room = N.room ∧ (N.dropped (j : Int)).lost = N.lost := by
  have hh : N.has (j : Int) = true := by rw [h.has]; simp; omega
  unfold Nt.dropped
  rw [if_pos hh]
  refine ⟨?_, rfl, rfl⟩
  unfold Nt.drop
  simp only [Int.toNat_natCast]
  rw [h.eq, List.map_append, List.map_take, List.map_drop]
theorem cut_len {row : List Nat} {j : Nat} (hj : j < row.length) : (row.take j ++ row.drop (j + 1)).length = row.length - 1 := by simp; omega
theorem cut_mem {row : List Nat} {j : Nat} {P : Nat → Prop} (h : ∀ x ∈ row, P x) : ∀ x ∈ row.take j ++ row.drop (j + 1), P x := fun x hx => by
  rcases List.mem_append.1 hx with e | e
  · exact h x (List.mem_of_mem_take e)
  · exact h x (List.mem_of_mem_drop e)

end Go.Proofs.Ytagioadkgalbiaa
