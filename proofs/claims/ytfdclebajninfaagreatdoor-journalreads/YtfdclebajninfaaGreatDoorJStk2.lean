import Derived.Test.YtfdclebajninfaaGreatDoorJOpen
namespace Go.Proofs.YtfdclebajninfaaGreatDoor
open Go.RowKit Go.Maps

/-! Strokes: the steps of an Add or a Checkpoint, as data and as function values -/
inductive Stk where
  | app (x : Nm) (r : List Nat)
  | cut (x : Nm) (n : Nat)
  | sync (x : Nm)
  | names
  | ren (x y : Nm)
  | rem (x : Nm)
  | mend
  | drop
def Stk.run (S : St) (J : Jr) : Stk → Nat × St × Jr
  | .app x r => ((S.appendR x r).1, (S.appendR x r).2, J)
  | .cut x n => ((S.cutR x n).1, (S.cutR x n).2, J)
  | .sync x => ((S.syncR x).1, (S.syncR x).2, J)
  | .names => (S.namesR.1, S.namesR.2, J)
  | .ren x y => ((S.renameR x y).1, (S.renameR x y).2, J)
  | .rem x => ((S.removeR x).1, (S.removeR x).2, J)
  | .mend => (0, S, { J with torn := false })
  | .drop => (0, S, { J with recs := [], torn := false })

structure Box (w : World) (K : Knd) (o b : Nat) (v : Value) (t : TypeId) : Prop where
  blk : w.heap[b]? = some (.cells #[v] t (0, 0))
  kd : K b = (o, 4)
theorem Box.cell {w : World} {K : Knd} {o b : Nat} {v : Value} {t : TypeId} (h : Box w K o b v t) : w.cell? ⟨b, 0, none⟩ = some v := by simp [World.cell?, h.blk]
theorem Box.kept {p : Nat × Nat → Prop} {K K' : Knd} {w w' : World} {o b : Nat} {v : Value} {t : TypeId} (h : Box w K o b v t) (hk : Kp p K K' w w') (hp : ¬ p (o, 4)) : Box w' K' o b v t := by
  have hl := lt_of_block h.blk
  exact ⟨(hk.block b hl (by rw [h.kd]; exact hp)).trans h.blk, (hk.same b hl).trans h.kd⟩

/-- A value that is the stroke s, of the journal at jb over the disk at d. -/
def Sv (w : World) (K : Knd) (o d jb : Nat) (v : Value) : Stk → Prop
  | .app x r => ∃ b0 b1 b2 g q c, v = .func (.func 121) #[] #[.pointer (some ⟨b0, 0, none⟩), .pointer (some ⟨b1, 0, none⟩), .pointer (some ⟨b2, 0, none⟩)] ∧ Box w K o b0 (.func (.func 80) #[.pointer (some ⟨d, 0, none⟩)] #[]) 142 ∧ Box w K o b1 (.string ⟨x.toArray⟩) 9 ∧ Box w K o b2 (.slice (some ⟨g, q, none⟩) r.length c) 22 ∧ x.length ≤ 64 ∧ K g = (o, 3) ∧ (∃ D fr, w.heap[g]? = some (.cells D 5 fr)) ∧ Bytes w (some ⟨g, q, none⟩) r ∧ r.length ≤ 4194304
  | .cut x n => ∃ b0 b1 b2, v = .func (.func 117) #[] #[.pointer (some ⟨b0, 0, none⟩), .pointer (some ⟨b1, 0, none⟩), .pointer (some ⟨b2, 0, none⟩)] ∧ Box w K o b0 (.func (.func 75) #[.pointer (some ⟨d, 0, none⟩)] #[]) 139 ∧ Box w K o b1 (.string ⟨x.toArray⟩) 9 ∧ Box w K o b2 (.int .i64 (n : Int)) 3 ∧ x.length ≤ 64 ∧ n ≤ 9223372036854775807
  | .sync x => ∃ b0 b1, v = .func (.func 125) #[] #[.pointer (some ⟨b0, 0, none⟩), .pointer (some ⟨b1, 0, none⟩)] ∧ Box w K o b0 (.func (.func 82) #[.pointer (some ⟨d, 0, none⟩)] #[]) 144 ∧ Box w K o b1 (.string ⟨x.toArray⟩) 9 ∧ x.length ≤ 64
  | .names => v = .func (.func 83) #[.pointer (some ⟨d, 0, none⟩)] #[]
  | .ren x y => ∃ b0 b1 b2, v = .func (.func 133) #[] #[.pointer (some ⟨b0, 0, none⟩), .pointer (some ⟨b1, 0, none⟩), .pointer (some ⟨b2, 0, none⟩)] ∧ Box w K o b0 (.func (.func 105) #[.pointer (some ⟨d, 0, none⟩)] #[]) 163 ∧ Box w K o b1 (.string ⟨x.toArray⟩) 9 ∧ Box w K o b2 (.string ⟨y.toArray⟩) 9 ∧ x.length ≤ 64 ∧ y.length ≤ 64
  | .rem x => ∃ b0 b1, v = .func (.func 125) #[] #[.pointer (some ⟨b0, 0, none⟩), .pointer (some ⟨b1, 0, none⟩)] ∧ Box w K o b0 (.func (.func 103) #[.pointer (some ⟨d, 0, none⟩)] #[]) 144 ∧ Box w K o b1 (.string ⟨x.toArray⟩) 9 ∧ x.length ≤ 64
  | .mend => ∃ b0 b1, v = .func (.func 120) #[] #[.pointer (some ⟨b0, 0, none⟩)] ∧ Box w K o b0 (.func (.func 78) #[] #[.pointer (some ⟨b1, 0, none⟩)]) 1 ∧ Box w K o b1 (.pointer (some ⟨jb, 0, none⟩)) 34
  | .drop => ∃ b0 b1, v = .func (.func 120) #[] #[.pointer (some ⟨b0, 0, none⟩)] ∧ Box w K o b0 (.func (.func 106) #[] #[.pointer (some ⟨b1, 0, none⟩)]) 1 ∧ Box w K o b1 (.pointer (some ⟨jb, 0, none⟩)) 34
theorem Sv.kept {p : Nat × Nat → Prop} {K K' : Knd} {w w' : World} {o d jb : Nat} {v : Value} {s : Stk} (h : Sv w K o d jb v s) (hk : Kp p K K' w w') (h3 : ¬ p (o, 3)) (h4 : ¬ p (o, 4)) : Sv w' K' o d jb v s := by
  cases s with
  | app x r =>
    obtain ⟨b0, b1, b2, g, q, c, e, x0, x1, x2, x3, x4, x5, x6, x7⟩ := h
    obtain ⟨D, fr, hD⟩ := x5
    have x5 := lt_of_block hD
    exact ⟨b0, b1, b2, g, q, c, e, x0.kept hk h4, x1.kept hk h4, x2.kept hk h4, x3, (hk.same g x5).trans x4, ⟨D, fr, (hk.block g x5 (by rw [x4]; exact h3)).trans hD⟩, bytes_kept x6 hk.size (fun g' o' e hg => by cases e; exact hk.block g hg (by rw [x4]; exact h3)), x7⟩
  | cut x n =>
    obtain ⟨b0, b1, b2, e, x0, x1, x2, x3⟩ := h
    exact ⟨b0, b1, b2, e, x0.kept hk h4, x1.kept hk h4, x2.kept hk h4, x3⟩
  | sync x =>
    obtain ⟨b0, b1, e, x0, x1, x3⟩ := h
    exact ⟨b0, b1, e, x0.kept hk h4, x1.kept hk h4, x3⟩
  | names => exact h
  | ren x y =>
    obtain ⟨b0, b1, b2, e, x0, x1, x2, x3⟩ := h
    exact ⟨b0, b1, b2, e, x0.kept hk h4, x1.kept hk h4, x2.kept hk h4, x3⟩
  | rem x =>
    obtain ⟨b0, b1, e, x0, x1, x3⟩ := h
    exact ⟨b0, b1, e, x0.kept hk h4, x1.kept hk h4, x3⟩
  | mend =>
    obtain ⟨b0, b1, e, x0, x1⟩ := h
    exact ⟨b0, b1, e, x0.kept hk h4, x1.kept hk h4⟩
  | drop =>
    obtain ⟨b0, b1, e, x0, x1⟩ := h
    exact ⟨b0, b1, e, x0.kept hk h4, x1.kept hk h4⟩

/-- What a stroke turns: the disk's own, and the journal's block. -/
def Ps (od o : Nat) (k : Nat × Nat) : Prop := Ow od k ∨ k = (o, 1)
def Does (w : World) (K : Knd) (od o d jb : Nat) (S : St) (J : Jr) (s : Stk) (e : Ending) (w' : World) : Prop :=
  ∃ K', e = .returned (.int .i64 ((s.run S J).1 : Int)) ∧ Dk w' K' od d (s.run S J).2.1 ∧ Jk w' K' o d jb (s.run S J).2.2 ∧ Kp (Ps od o) K K' w w'

set_option maxRecDepth 100000 in
set_option maxHeartbeats 400000 in
theorem app_stroke (w : World) (K : Knd) (od o d jb : Nat) (hne : o ≠ od) (S : St) (J : Jr) (hd : Dk w K od d S) (hv : Inv S) (k : Nat) (hz : Sz S k) (hk : k + 4194304 ≤ 549755813888) (hj : Jk w K o d jb J) (x : Nm) (r : List Nat) (b0 b1 b2 g q c n : Nat) (hn : r.length = n) (x0 : Box w K o b0 (.func (.func 80) #[.pointer (some ⟨d, 0, none⟩)] #[]) 142) (x1 : Box w K o b1 (.string ⟨x.toArray⟩) 9) (x2 : Box w K o b2 (.slice (some ⟨g, q, none⟩) n c) 22) (hx : x.length ≤ 64) (hg : K g = (o, 3)) (hgl : g < w.heap.size) (hb : Bytes w (some ⟨g, q, none⟩) r) (hr : r.length ≤ 4194304) :
    Calls Tryz.prog 121 #[.pointer (some ⟨b0, 0, none⟩), .pointer (some ⟨b1, 0, none⟩), .pointer (some ⟨b2, 0, none⟩)] w (Does w K od o d jb S J (.app x r)) := by
  have HC := hide (Append_any w K od d S hd k x (by omega) (some ⟨g, q, none⟩) n c r hn ⟨hv, hz, by omega, hb, Or.inr (fun g' p e => by cases e; rw [hg]; exact hne), Or.inr (fun g' p e => by cases e; exact hgl)⟩)
  have c0 := x0.cell
  have c1 := x1.cell
  have c2 := x2.cell
  clear hb hg hgl hr
  clear x0 x1 x2 hd hv hz
  have HJ := hide hj
  clear hj
  go_enter Tryz.func121, Tryz.ntmps121
  go_wp2_with fail
  refine HC.out.mono ?_
  rintro e w1 ⟨K1, rfl, hd1, hk1⟩
  have HD1 := hide hd1
  have HJ1 := hide (HJ.out.kept hk1 (fun n hn => hne hn))
  have HK1 := hide (hk1.mono (q := Ps od o) (fun k h => Or.inl h))
  clear hd1 hk1
  go_wp2
  go_ret
  exact ⟨K1, rfl, HD1.out, HJ1.out, HK1.out⟩
set_option maxRecDepth 100000 in
set_option maxHeartbeats 400000 in
theorem cut_stroke (w : World) (K : Knd) (od o d jb : Nat) (hne : o ≠ od) (S : St) (J : Jr) (hd : Dk w K od d S) (hv : Inv S) (k : Nat) (hz : Sz S k) (hk : k + 4194304 ≤ 549755813888) (hj : Jk w K o d jb J) (x : Nm) (b0 b1 b2 n : Nat) (x0 : Box w K o b0 (.func (.func 75) #[.pointer (some ⟨d, 0, none⟩)] #[]) 139) (x1 : Box w K o b1 (.string ⟨x.toArray⟩) 9) (x2 : Box w K o b2 (.int .i64 (n : Int)) 3) (hx : x.length ≤ 64) (hn : n ≤ 9223372036854775807) :
    Calls Tryz.prog 117 #[.pointer (some ⟨b0, 0, none⟩), .pointer (some ⟨b1, 0, none⟩), .pointer (some ⟨b2, 0, none⟩)] w (Does w K od o d jb S J (.cut x n)) := by
  have HC := hide (Cut_any w K od d S hd hv k hz (by omega) x (by omega) (n : Int) (by omega))
  have c0 := x0.cell
  have c1 := x1.cell
  have c2 := x2.cell
  clear x0 x1 x2 hd hv hz
  have HJ := hide hj
  clear hj
  go_enter Tryz.func117, Tryz.ntmps117
  go_wp2_with fail
  refine HC.out.mono ?_
  rintro e w1 ⟨K1, rfl, hd1, hk1⟩
  have HD1 := hide hd1
  have HJ1 := hide (HJ.out.kept hk1 (fun n hn => hne hn))
  have HK1 := hide (hk1.mono (q := Ps od o) (fun k h => Or.inl h))
  clear hd1 hk1
  go_wp2
  go_ret
  exact ⟨K1, rfl, HD1.out, HJ1.out, HK1.out⟩
set_option maxRecDepth 100000 in
set_option maxHeartbeats 400000 in
theorem sync_stroke (w : World) (K : Knd) (od o d jb : Nat) (hne : o ≠ od) (S : St) (J : Jr) (hd : Dk w K od d S) (hv : Inv S) (k : Nat) (hz : Sz S k) (hk : k + 4194304 ≤ 549755813888) (hj : Jk w K o d jb J) (x : Nm) (b0 b1 : Nat) (x0 : Box w K o b0 (.func (.func 82) #[.pointer (some ⟨d, 0, none⟩)] #[]) 144) (x1 : Box w K o b1 (.string ⟨x.toArray⟩) 9) (hx : x.length ≤ 64) :
    Calls Tryz.prog 125 #[.pointer (some ⟨b0, 0, none⟩), .pointer (some ⟨b1, 0, none⟩)] w (Does w K od o d jb S J (.sync x)) := by
  have HC := hide (Sync_any w K od d S hd hv k hz (by omega) x (by omega))
  have c0 := x0.cell
  have c1 := x1.cell
  clear x0 x1 hd hv hz
  have HJ := hide hj
  clear hj
  go_enter Tryz.func125, Tryz.ntmps125
  go_wp2_with fail
  refine HC.out.mono ?_
  rintro e w1 ⟨K1, rfl, hd1, hk1⟩
  have HD1 := hide hd1
  have HJ1 := hide (HJ.out.kept hk1 (fun n hn => hne hn))
  have HK1 := hide (hk1.mono (q := Ps od o) (fun k h => Or.inl h))
  clear hd1 hk1
  go_wp2
  go_ret
  exact ⟨K1, rfl, HD1.out, HJ1.out, HK1.out⟩
set_option maxRecDepth 100000 in
set_option maxHeartbeats 400000 in
theorem ren_stroke (w : World) (K : Knd) (od o d jb : Nat) (hne : o ≠ od) (S : St) (J : Jr) (hd : Dk w K od d S) (hv : Inv S) (k : Nat) (hz : Sz S k) (hk : k + 4194304 ≤ 549755813888) (hj : Jk w K o d jb J) (x y : Nm) (b0 b1 b2 : Nat) (x0 : Box w K o b0 (.func (.func 105) #[.pointer (some ⟨d, 0, none⟩)] #[]) 163) (x1 : Box w K o b1 (.string ⟨x.toArray⟩) 9) (x2 : Box w K o b2 (.string ⟨y.toArray⟩) 9) (hx : x.length ≤ 64) (hy : y.length ≤ 64) :
    Calls Tryz.prog 133 #[.pointer (some ⟨b0, 0, none⟩), .pointer (some ⟨b1, 0, none⟩), .pointer (some ⟨b2, 0, none⟩)] w (Does w K od o d jb S J (.ren x y)) := by
  have HC := hide (Rename_any w K od d S hd hv k hz (by omega) x y (by omega) (by omega))
  have c0 := x0.cell
  have c1 := x1.cell
  have c2 := x2.cell
  clear x0 x1 x2 hd hv hz
  have HJ := hide hj
  clear hj
  go_enter Tryz.func133, Tryz.ntmps133
  go_wp2_with fail
  refine HC.out.mono ?_
  rintro e w1 ⟨K1, rfl, hd1, hk1⟩
  have HD1 := hide hd1
  have HJ1 := hide (HJ.out.kept hk1 (fun n hn => hne hn))
  have HK1 := hide (hk1.mono (q := Ps od o) (fun k h => Or.inl h))
  clear hd1 hk1
  go_wp2
  go_ret
  exact ⟨K1, rfl, HD1.out, HJ1.out, HK1.out⟩
set_option maxRecDepth 100000 in
set_option maxHeartbeats 400000 in
theorem rem_stroke (w : World) (K : Knd) (od o d jb : Nat) (hne : o ≠ od) (S : St) (J : Jr) (hd : Dk w K od d S) (hv : Inv S) (k : Nat) (hz : Sz S k) (hk : k + 4194304 ≤ 549755813888) (hj : Jk w K o d jb J) (x : Nm) (b0 b1 : Nat) (x0 : Box w K o b0 (.func (.func 103) #[.pointer (some ⟨d, 0, none⟩)] #[]) 144) (x1 : Box w K o b1 (.string ⟨x.toArray⟩) 9) (hx : x.length ≤ 64) :
    Calls Tryz.prog 125 #[.pointer (some ⟨b0, 0, none⟩), .pointer (some ⟨b1, 0, none⟩)] w (Does w K od o d jb S J (.rem x)) := by
  have HC := hide (Remove_any w K od d S hd hv k hz (by omega) x (by omega))
  have c0 := x0.cell
  have c1 := x1.cell
  clear x0 x1 hd hv hz
  have HJ := hide hj
  clear hj
  go_enter Tryz.func125, Tryz.ntmps125
  go_wp2_with fail
  refine HC.out.mono ?_
  rintro e w1 ⟨K1, rfl, hd1, hk1⟩
  have HD1 := hide hd1
  have HJ1 := hide (HJ.out.kept hk1 (fun n hn => hne hn))
  have HK1 := hide (hk1.mono (q := Ps od o) (fun k h => Or.inl h))
  clear hd1 hk1
  go_wp2
  go_ret
  exact ⟨K1, rfl, HD1.out, HJ1.out, HK1.out⟩
theorem names_stroke (w : World) (K : Knd) (od o d jb : Nat) (hne : o ≠ od) (S : St) (J : Jr) (hd : Dk w K od d S) (hv : Inv S) (k : Nat) (hz : Sz S k) (hk : k + 4194304 ≤ 549755813888) (hj : Jk w K o d jb J) : Calls Tryz.prog 83 #[.pointer (some ⟨d, 0, none⟩)] w (Does w K od o d jb S J .names) := by
  refine (SyncNames_any w K od d S hd hv k hz (by omega)).mono ?_
  rintro e w1 ⟨K1, rfl, hd1, hk1⟩
  exact ⟨K1, rfl, hd1, hj.kept hk1 (fun n hn => hne hn), hk1.mono (fun k h => Or.inl h)⟩
theorem Jk.flags {w : World} {K : Knd} {o d jb : Nat} {J : Jr} (h : Jk w K o d jb J) (b : Bool) : Jk (w.setCell ⟨jb, 4, none⟩ (.bool b)) K o d jb { J with torn := b } := by
  obtain ⟨rv, vs, hm⟩ := h
  have hne : ∀ b c, K b = (o, c) → c ≠ 1 → b ≠ jb := fun b c hb hc e => by rw [e, hm.kj] at hb; cases hb; exact hc rfl
  refine ⟨rv, vs, ⟨by rw [block_set hm.blk]; rfl, hm.kj, ⟨owns_set hm.row.own (fun e => hne jb 2 (hm.row.kind jb e.symm) (by decide) rfl), hm.row.kind⟩, fun i r hr => ?_⟩⟩
  obtain ⟨g, q, c, h1, h2, h3, h4, h5, h6⟩ := hm.recs i r hr
  exact ⟨g, q, c, h1, h2, h3, h4, by simpa using h5, bytes_kept h6 (by simp) (fun g' o' e hg => by cases e; exact Below.heap_setCell _ _ _ _ (hne g 3 h4 (by decide)))⟩
theorem Jk.dropped {w : World} {K : Knd} {o d jb : Nat} {J : Jr} (h : Jk w K o d jb J) : Jk (w.setCell ⟨jb, 2, none⟩ (.slice none 0 0)) K o d jb { J with recs := [] } := by
  obtain ⟨rv, vs, hm⟩ := h
  exact ⟨.slice none 0 0, [], ⟨by rw [block_set hm.blk]; rfl, hm.kj, rk_nil _ _ _ _ _, fun i r hr => by simp at hr⟩⟩
set_option maxRecDepth 100000 in
set_option maxHeartbeats 400000 in
theorem mend_fn (w : World) (jb b : Nat) (c0 : w.cell? ⟨b, 0, none⟩ = some (.pointer (some ⟨jb, 0, none⟩))) (bt : Bool) (c4 : w.cell? ⟨jb, 4, none⟩ = some (.bool bt)) (hf : ∀ i, w.frozen? ⟨jb, i, none⟩ = false) :
    Calls Tryz.prog 78 #[.pointer (some ⟨b, 0, none⟩)] w fun e w' => e = .returned (.tuple #[]) ∧ w' = w.setCell ⟨jb, 4, none⟩ (.bool false) := by
  have f4 := hf 4
  clear hf
  go_enter Tryz.func78, Tryz.ntmps78
  go_wp2
  go_end0
  exact ⟨rfl, rfl⟩
set_option maxRecDepth 100000 in
set_option maxHeartbeats 400000 in
theorem drop_fn (w : World) (jb b : Nat) (c0 : w.cell? ⟨b, 0, none⟩ = some (.pointer (some ⟨jb, 0, none⟩))) (x2 : Value) (c2 : w.cell? ⟨jb, 2, none⟩ = some x2) (bt : Bool) (c4 : w.cell? ⟨jb, 4, none⟩ = some (.bool bt)) (hf : ∀ i, w.frozen? ⟨jb, i, none⟩ = false) :
    Calls Tryz.prog 106 #[.pointer (some ⟨b, 0, none⟩)] w fun e w' => e = .returned (.tuple #[]) ∧ w' = ((w.setCell ⟨jb, 2, none⟩ (.slice none 0 0)).setCell ⟨jb, 4, none⟩ (.bool false)).drew := by
  have f4 := hf 4
  have f2 := hf 2
  clear hf
  go_enter Tryz.func106, Tryz.ntmps106
  go_region
  go_end0
  exact ⟨rfl, rfl⟩
set_option maxRecDepth 100000 in
set_option maxHeartbeats 400000 in
theorem mend_stroke (w : World) (K : Knd) (od o d jb : Nat) (hne : o ≠ od) (S : St) (J : Jr) (hd : Dk w K od d S) (hj : Jk w K o d jb J) (b0 b1 : Nat) (x0 : Box w K o b0 (.func (.func 78) #[] #[.pointer (some ⟨b1, 0, none⟩)]) 1) (x1 : Box w K o b1 (.pointer (some ⟨jb, 0, none⟩)) 34) :
    Calls Tryz.prog 120 #[.pointer (some ⟨b0, 0, none⟩)] w (Does w K od o d jb S J .mend) := by
  obtain ⟨rv, vs, hm⟩ := hj
  have hb := hm.blk
  unfold jcells at hb
  obtain ⟨q0, q1, q2, q3, q4, q5, q6, qf⟩ := blk7 hb
  have HF := hide (mend_fn w jb b1 x1.cell _ q4 qf)
  have hkp : Kp (Ps od o) K K w w := ⟨rfl, rfl, rfl, Nat.le_refl _, fun _ _ => rfl, fun _ _ _ => rfl⟩
  have HK : Hid (Kp (Ps od o) K K w (w.setCell ⟨jb, 4, none⟩ (.bool false))) := hkp.setCell (Or.inr (Or.inr hm.kj)) _ _
  have HJ : Hid (Jk (w.setCell ⟨jb, 4, none⟩ (.bool false)) K o d jb { J with torn := false }) := Jk.flags ⟨rv, vs, hm⟩ false
  have HD : Hid (Dk (w.setCell ⟨jb, 4, none⟩ (.bool false)) K od d S) := hd.kept (p := fun k => k = (o, 1)) ((⟨rfl, rfl, rfl, Nat.le_refl _, fun _ _ => rfl, fun _ _ _ => rfl⟩ : Kp (fun k => k = (o, 1)) K K w w).setCell (Or.inr hm.kj) _ _) (fun n hn => hne (by cases hn; rfl))
  have c0 := x0.cell
  clear hm hb q0 q1 q2 q3 q4 q5 q6 qf hd x0 x1 hkp
  go_enter Tryz.func120, Tryz.ntmps120
  go_wp2_with fail
  refine HF.out.mono ?_
  rintro e w1 ⟨rfl, hw1⟩
  rw [← hw1] at HK HJ HD
  clear hw1 HF
  go_wp2
  go_ret
  exact ⟨K, rfl, HD.out, HJ.out, HK.out⟩
set_option maxRecDepth 100000 in
set_option maxHeartbeats 400000 in
theorem drop_stroke (w : World) (K : Knd) (od o d jb : Nat) (hne : o ≠ od) (S : St) (J : Jr) (hd : Dk w K od d S) (hj : Jk w K o d jb J) (b0 b1 : Nat) (x0 : Box w K o b0 (.func (.func 106) #[] #[.pointer (some ⟨b1, 0, none⟩)]) 1) (x1 : Box w K o b1 (.pointer (some ⟨jb, 0, none⟩)) 34) :
    Calls Tryz.prog 120 #[.pointer (some ⟨b0, 0, none⟩)] w (Does w K od o d jb S J .drop) := by
  obtain ⟨rv, vs, hm⟩ := hj
  have hb := hm.blk
  unfold jcells at hb
  obtain ⟨q0, q1, q2, q3, q4, q5, q6, qf⟩ := blk7 hb
  have HF := hide (drop_fn w jb b1 x1.cell _ q2 _ q4 qf)
  have hkp : Kp (Ps od o) K K w w := ⟨rfl, rfl, rfl, Nat.le_refl _, fun _ _ => rfl, fun _ _ _ => rfl⟩
  have HK : Hid (Kp (Ps od o) K K w (((w.setCell ⟨jb, 2, none⟩ (.slice none 0 0)).setCell ⟨jb, 4, none⟩ (.bool false)).drew)) := ((hkp.setCell (Or.inr (Or.inr hm.kj)) _ _).setCell (Or.inr (Or.inr hm.kj)) _ _).drew
  have HJ : Hid (Jk (((w.setCell ⟨jb, 2, none⟩ (.slice none 0 0)).setCell ⟨jb, 4, none⟩ (.bool false)).drew) K o d jb { J with recs := [], torn := false }) := (Jk.flags (Jk.dropped ⟨rv, vs, hm⟩) false).kept (p := fun _ => False) ⟨rfl, rfl, rfl, Nat.le_refl _, fun _ _ => rfl, fun _ _ _ => rfl⟩ (fun _ h => h)
  have HD : Hid (Dk (((w.setCell ⟨jb, 2, none⟩ (.slice none 0 0)).setCell ⟨jb, 4, none⟩ (.bool false)).drew) K od d S) := hd.kept (p := fun k => k = (o, 1)) ((((⟨rfl, rfl, rfl, Nat.le_refl _, fun _ _ => rfl, fun _ _ _ => rfl⟩ : Kp (fun k => k = (o, 1)) K K w w).setCell (Or.inr hm.kj) _ _).setCell (Or.inr hm.kj) _ _).drew) (fun n hn => hne (by cases hn; rfl))
  have c0 := x0.cell
  clear hm hb q0 q1 q2 q3 q4 q5 q6 qf hd x0 x1 hkp
  go_enter Tryz.func120, Tryz.ntmps120
  go_wp2_with fail
  refine HF.out.mono ?_
  rintro e w1 ⟨rfl, hw1⟩
  rw [← hw1] at HK HJ HD
  clear hw1 HF
  go_wp2
  go_ret
  exact ⟨K, rfl, HD.out, HJ.out, HK.out⟩
theorem step_any (w : World) (K : Knd) (od o d jb : Nat) (hne : o ≠ od) (S : St) (J : Jr) (hd : Dk w K od d S) (hv : Inv S) (k : Nat) (hz : Sz S k) (hk : k + 4194304 ≤ 549755813888) (hj : Jk w K o d jb J) (v : Value) (s : Stk) (hs : Sv w K o d jb v s) : ∃ (N : Nat) (b c : Array Value), v = .func (.func N) b c ∧ Calls Tryz.prog N (b ++ c) w (Does w K od o d jb S J s) := by
  cases s with
  | app x r =>
    obtain ⟨b0, b1, b2, g, q, c, e, x0, x1, x2, x3, x4, x5, x6, x7⟩ := hs
    obtain ⟨D, fr, hD⟩ := x5
    have x5 := lt_of_block hD
    exact ⟨_, _, _, e, app_stroke w K od o d jb hne S J hd hv k hz hk hj x r b0 b1 b2 g q c _ rfl x0 x1 x2 x3 x4 x5 x6 x7⟩
  | cut x n =>
    obtain ⟨b0, b1, b2, e, x0, x1, x2, x3, x4⟩ := hs
    exact ⟨_, _, _, e, cut_stroke w K od o d jb hne S J hd hv k hz hk hj x b0 b1 b2 n x0 x1 x2 x3 x4⟩
  | sync x =>
    obtain ⟨b0, b1, e, x0, x1, x3⟩ := hs
    exact ⟨_, _, _, e, sync_stroke w K od o d jb hne S J hd hv k hz hk hj x b0 b1 x0 x1 x3⟩
  | names => exact ⟨_, _, _, hs, names_stroke w K od o d jb hne S J hd hv k hz hk hj⟩
  | ren x y =>
    obtain ⟨b0, b1, b2, e, x0, x1, x2, x3, x4⟩ := hs
    exact ⟨_, _, _, e, ren_stroke w K od o d jb hne S J hd hv k hz hk hj x y b0 b1 b2 x0 x1 x2 x3 x4⟩
  | rem x =>
    obtain ⟨b0, b1, e, x0, x1, x3⟩ := hs
    exact ⟨_, _, _, e, rem_stroke w K od o d jb hne S J hd hv k hz hk hj x b0 b1 x0 x1 x3⟩
  | mend =>
    obtain ⟨b0, b1, e, x0, x1⟩ := hs
    exact ⟨_, _, _, e, mend_stroke w K od o d jb hne S J hd hj b0 b1 x0 x1⟩
  | drop =>
    obtain ⟨b0, b1, e, x0, x1⟩ := hs
    exact ⟨_, _, _, e, drop_stroke w K od o d jb hne S J hd hj b0 b1 x0 x1⟩

end Go.Proofs.YtfdclebajninfaaGreatDoor
namespace Go.Proofs.YtfdclebajninfaaGreatDoor
open Go.RowKit Go.Maps

/-! Rows of strokes -/
theorem Tryz.infoSk : (Tryz.prog.info? 137).map (fun i => (i.zero, i.size, i.bytes)) = some (some .nilFunc, 1, 8) := by kernel_rfl
/-- All blocks but rows of strokes stay. -/
def Nst (w w' : World) : Prop := ∀ (g : Nat) (D : Array Value) (t : TypeId) (fr : Nat × Nat), w.heap[g]? = some (.cells D t fr) → t ≠ 137 → w'.heap[g]? = w.heap[g]?
theorem Nst.refl (w : World) : Nst w w := fun _ _ _ _ _ _ => rfl
theorem Nst.trans {a b c : World} (h : Nst a b) (k : Nst b c) : Nst a c := fun g D t fr e ht => (k g D t fr ((h g D t fr e ht).trans e) ht).trans (h g D t fr e ht)
theorem nst_below {w w' : World} (h : Below w.heap.size w w') : Nst w w' := fun g _ _ _ e _ => h.block g (lt_of_block e)
theorem nst_grown {w w' : World} {v : Value} {B n s : Nat} {xs : List Value} (h : w.grownBy w' v.ownBlock) (ho : w.ownsRow B 137 s v n xs) : Nst w w' := fun g _ _ _ e ht => h.block g (lt_of_block e) (owns_ne ho e ht)
theorem Box.same {w w' : World} {K : Knd} {o b : Nat} {v : Value} {t : TypeId} (h : Box w K o b v t) (hn : Nst w w') (ht : t ≠ 137) : Box w' K o b v t := ⟨(hn b _ _ _ h.blk ht).trans h.blk, h.kd⟩
theorem Sv.same {w w' : World} {K : Knd} {o d jb : Nat} {v : Value} {s : Stk} (h : Sv w K o d jb v s) (hn : Nst w w') (hs : w.heap.size ≤ w'.heap.size) : Sv w' K o d jb v s := by
  cases s with
  | app x r =>
    obtain ⟨b0, b1, b2, g, q, c, e, x0, x1, x2, x3, x4, x5, x6, x7⟩ := h
    obtain ⟨D, fr, hD⟩ := x5
    exact ⟨b0, b1, b2, g, q, c, e, x0.same hn (by decide), x1.same hn (by decide), x2.same hn (by decide), x3, x4, ⟨D, fr, (hn g _ _ _ hD (by decide)).trans hD⟩, bytes_kept x6 hs (fun g' o' e hg => by cases e; exact hn g _ _ _ hD (by decide)), x7⟩
  | cut x n =>
    obtain ⟨b0, b1, b2, e, x0, x1, x2, x3⟩ := h
    exact ⟨b0, b1, b2, e, x0.same hn (by decide), x1.same hn (by decide), x2.same hn (by decide), x3⟩
  | sync x =>
    obtain ⟨b0, b1, e, x0, x1, x3⟩ := h
    exact ⟨b0, b1, e, x0.same hn (by decide), x1.same hn (by decide), x3⟩
  | names => exact h
  | ren x y =>
    obtain ⟨b0, b1, b2, e, x0, x1, x2, x3⟩ := h
    exact ⟨b0, b1, b2, e, x0.same hn (by decide), x1.same hn (by decide), x2.same hn (by decide), x3⟩
  | rem x =>
    obtain ⟨b0, b1, e, x0, x1, x3⟩ := h
    exact ⟨b0, b1, e, x0.same hn (by decide), x1.same hn (by decide), x3⟩
  | mend =>
    obtain ⟨b0, b1, e, x0, x1⟩ := h
    exact ⟨b0, b1, e, x0.same hn (by decide), x1.same hn (by decide)⟩
  | drop =>
    obtain ⟨b0, b1, e, x0, x1⟩ := h
    exact ⟨b0, b1, e, x0.same hn (by decide), x1.same hn (by decide)⟩
structure Srow (B : Nat) (w : World) (K : Knd) (o d jb : Nat) (a : Option Addr) (n c : Nat) (ss : List Stk) (vs : List Value) : Prop where
  len : ss.length = n
  own : w.ownsRow B 137 1 (.slice a n c) n vs
  each : ∀ (i : Nat) (s : Stk), ss[i]? = some s → ∃ v, vs[i]? = some v ∧ Sv w K o d jb v s
theorem srow_nil (B : Nat) (w : World) (K : Knd) (o d jb : Nat) : Srow B w K o d jb none 0 0 [] [] := ⟨rfl, ⟨rfl, Or.inl ⟨rfl, rfl⟩⟩, fun i s hs => by simp at hs⟩
theorem Srow.below {B : Nat} {w w' : World} {K : Knd} {o d jb n c : Nat} {a : Option Addr} {ss : List Stk} {vs : List Value} (h : Srow B w K o d jb a n c ss vs) (hb : Below w.heap.size w w') : Srow B w' K o d jb a n c ss vs :=
  ⟨h.len, owns_same h.own (fun g hg => hb.block g (rk_lt h.own hg)), fun i s hs => by
    obtain ⟨v, h1, h2⟩ := h.each i s hs
    exact ⟨v, h1, h2.same (nst_below hb) hb.size⟩⟩
theorem Srow.more {B : Nat} {w w' : World} {K : Knd} {o d jb n c m c' : Nat} {a a' : Option Addr} {ss ts : List Stk} {vs us : List Value} (h : Srow B w K o d jb a n c ss vs) (hn : Nst w w') (hs : w.heap.size ≤ w'.heap.size) (hm : n + ts.length = m) (ho : w'.ownsRow B 137 1 (.slice a' m c') m (vs ++ us)) (hu : ∀ (i : Nat) (s : Stk), ts[i]? = some s → ∃ v, us[i]? = some v ∧ Sv w' K o d jb v s) : Srow B w' K o d jb a' m c' (ss ++ ts) (vs ++ us) := by
  have hl : vs.length = n := by have := h.own.1; omega
  refine ⟨by rw [List.length_append, h.len]; exact hm, ho, fun i s hi => ?_⟩
  by_cases hin : i < n
  · rw [List.getElem?_append_left (by rw [h.len]; exact hin)] at hi
    obtain ⟨v, h1, h2⟩ := h.each i s hi
    exact ⟨v, by rw [List.getElem?_append_left (by omega)]; exact h1, h2.same hn hs⟩
  · rw [List.getElem?_append_right (by rw [h.len]; omega), h.len] at hi
    obtain ⟨v, h1, h2⟩ := hu _ s hi
    exact ⟨v, by rw [List.getElem?_append_right (by omega), hl]; exact h1, h2⟩

/-- A new box. -/
structure Nb (w w' : World) (b : Nat) (v : Value) (t : TypeId) : Prop where
  ge : w.heap.size ≤ b
  blk : w'.heap[b]? = some (.cells #[v] t (0, 0))
theorem Nb.box {w0 w w' : World} {K : Knd} {b : Nat} {v : Value} {t : TypeId} (h : Nb w w' b v t) (hb : w0.heap.size ≤ w.heap.size) (o : Nat) : Box w' (ext K w0.heap.size (o, 4)) o b v t := ⟨h.blk, ext_new K _ (Nat.le_trans hb h.ge)⟩
theorem below3 (w : World) (X Y Z : Obj) : Below w.heap.size w (((w.alloc X).alloc Y).alloc Z) := (((Below.refl _ _).alloc (Nat.le_refl _) _).alloc (by first | omega | (simp; done) | (simp; omega)) _).alloc (by simp; omega) _
theorem below2 (w : World) (X Y : Obj) : Below w.heap.size w ((w.alloc X).alloc Y) := ((Below.refl _ _).alloc (Nat.le_refl _) _).alloc (by first | omega | (simp; done) | (simp; omega)) _
set_option maxRecDepth 100000 in
set_option maxHeartbeats 400000 in
theorem withb_any (w : World) (N d : Nat) (s : ByteArray) (sp : Option Addr) (n c : Nat) :
    Calls Tryz.prog 79 #[.func (.func N) #[.pointer (some ⟨d, 0, none⟩)] #[], .string s, .slice sp n c] w fun e w' => ∃ b0 b1 b2, e = .returned (.func (.func 121) #[] #[.pointer (some ⟨b0, 0, none⟩), .pointer (some ⟨b1, 0, none⟩), .pointer (some ⟨b2, 0, none⟩)]) ∧ Nb w w' b0 (.func (.func N) #[.pointer (some ⟨d, 0, none⟩)] #[]) 142 ∧ Nb w w' b1 (.string s) 9 ∧ Nb w w' b2 (.slice sp n c) 22 ∧ Below w.heap.size w w' := by
  have hmf : ∀ (fn : Fn) (first cap : Array Value) (w : World), (Instr.makeFunc fn first cap).run Tryz.prog w = .ok (.func fn first cap) w := fun _ _ _ _ => rfl
  go_enter Tryz.func79, Tryz.ntmps79
  go_wp2
  go_ret
  refine ⟨_, _, _, rfl, ⟨Nat.le_refl _, ?_⟩, ⟨?_, ?_⟩, ⟨?_, ?_⟩, below3 _ _ _ _⟩
  · rw [Below.heap_alloc _ _ _ (by first | omega | (simp; done) | (simp; omega)), Below.heap_alloc _ _ _ (by first | omega | (simp; done) | (simp; omega))]; exact heap_alloc_new _ _
  · first | omega | (simp; done) | (simp; omega)
  · rw [Below.heap_alloc _ _ _ (by first | omega | (simp; done) | (simp; omega))]; simpa using heap_alloc_new (w.alloc (.cells #[.func (.func N) #[.pointer (some ⟨d, 0, none⟩)] #[]] 142)) (.cells #[.string s] 9)
  · first | omega | (simp; done) | (simp; omega)
  · simpa [Nat.add_assoc] using heap_alloc_new ((w.alloc (.cells #[.func (.func N) #[.pointer (some ⟨d, 0, none⟩)] #[]] 142)).alloc (.cells #[.string s] 9)) (.cells #[.slice sp n c] 22)
set_option maxRecDepth 100000 in
set_option maxHeartbeats 400000 in
theorem withi_any (w : World) (N d : Nat) (s : ByteArray) (n : Int) :
    Calls Tryz.prog 74 #[.func (.func N) #[.pointer (some ⟨d, 0, none⟩)] #[], .string s, .int .i64 n] w fun e w' => ∃ b0 b1 b2, e = .returned (.func (.func 117) #[] #[.pointer (some ⟨b0, 0, none⟩), .pointer (some ⟨b1, 0, none⟩), .pointer (some ⟨b2, 0, none⟩)]) ∧ Nb w w' b0 (.func (.func N) #[.pointer (some ⟨d, 0, none⟩)] #[]) 139 ∧ Nb w w' b1 (.string s) 9 ∧ Nb w w' b2 (.int .i64 n) 3 ∧ Below w.heap.size w w' := by
  have hmf : ∀ (fn : Fn) (first cap : Array Value) (w : World), (Instr.makeFunc fn first cap).run Tryz.prog w = .ok (.func fn first cap) w := fun _ _ _ _ => rfl
  go_enter Tryz.func74, Tryz.ntmps74
  go_wp2
  go_ret
  refine ⟨_, _, _, rfl, ⟨Nat.le_refl _, ?_⟩, ⟨?_, ?_⟩, ⟨?_, ?_⟩, below3 _ _ _ _⟩
  · rw [Below.heap_alloc _ _ _ (by first | omega | (simp; done) | (simp; omega)), Below.heap_alloc _ _ _ (by first | omega | (simp; done) | (simp; omega))]; exact heap_alloc_new _ _
  · first | omega | (simp; done) | (simp; omega)
  · rw [Below.heap_alloc _ _ _ (by first | omega | (simp; done) | (simp; omega))]; simpa using heap_alloc_new (w.alloc (.cells #[.func (.func N) #[.pointer (some ⟨d, 0, none⟩)] #[]] 139)) (.cells #[.string s] 9)
  · first | omega | (simp; done) | (simp; omega)
  · simpa [Nat.add_assoc] using heap_alloc_new ((w.alloc (.cells #[.func (.func N) #[.pointer (some ⟨d, 0, none⟩)] #[]] 139)).alloc (.cells #[.string s] 9)) (.cells #[.int .i64 n] 3)
set_option maxRecDepth 100000 in
set_option maxHeartbeats 400000 in
theorem withs_any (w : World) (N d : Nat) (s : ByteArray) (y : ByteArray) :
    Calls Tryz.prog 104 #[.func (.func N) #[.pointer (some ⟨d, 0, none⟩)] #[], .string s, .string y] w fun e w' => ∃ b0 b1 b2, e = .returned (.func (.func 133) #[] #[.pointer (some ⟨b0, 0, none⟩), .pointer (some ⟨b1, 0, none⟩), .pointer (some ⟨b2, 0, none⟩)]) ∧ Nb w w' b0 (.func (.func N) #[.pointer (some ⟨d, 0, none⟩)] #[]) 163 ∧ Nb w w' b1 (.string s) 9 ∧ Nb w w' b2 (.string y) 9 ∧ Below w.heap.size w w' := by
  have hmf : ∀ (fn : Fn) (first cap : Array Value) (w : World), (Instr.makeFunc fn first cap).run Tryz.prog w = .ok (.func fn first cap) w := fun _ _ _ _ => rfl
  go_enter Tryz.func104, Tryz.ntmps104
  go_wp2
  go_ret
  refine ⟨_, _, _, rfl, ⟨Nat.le_refl _, ?_⟩, ⟨?_, ?_⟩, ⟨?_, ?_⟩, below3 _ _ _ _⟩
  · rw [Below.heap_alloc _ _ _ (by first | omega | (simp; done) | (simp; omega)), Below.heap_alloc _ _ _ (by first | omega | (simp; done) | (simp; omega))]; exact heap_alloc_new _ _
  · first | omega | (simp; done) | (simp; omega)
  · rw [Below.heap_alloc _ _ _ (by first | omega | (simp; done) | (simp; omega))]; simpa using heap_alloc_new (w.alloc (.cells #[.func (.func N) #[.pointer (some ⟨d, 0, none⟩)] #[]] 163)) (.cells #[.string s] 9)
  · first | omega | (simp; done) | (simp; omega)
  · simpa [Nat.add_assoc] using heap_alloc_new ((w.alloc (.cells #[.func (.func N) #[.pointer (some ⟨d, 0, none⟩)] #[]] 163)).alloc (.cells #[.string s] 9)) (.cells #[.string y] 9)
set_option maxRecDepth 100000 in
set_option maxHeartbeats 400000 in
theorem on_any (w : World) (N d : Nat) (s : ByteArray) :
    Calls Tryz.prog 81 #[.func (.func N) #[.pointer (some ⟨d, 0, none⟩)] #[], .string s] w fun e w' => ∃ b0 b1, e = .returned (.func (.func 125) #[] #[.pointer (some ⟨b0, 0, none⟩), .pointer (some ⟨b1, 0, none⟩)]) ∧ Nb w w' b0 (.func (.func N) #[.pointer (some ⟨d, 0, none⟩)] #[]) 144 ∧ Nb w w' b1 (.string s) 9 ∧ Below w.heap.size w w' := by
  have hmf : ∀ (fn : Fn) (first cap : Array Value) (w : World), (Instr.makeFunc fn first cap).run Tryz.prog w = .ok (.func fn first cap) w := fun _ _ _ _ => rfl
  go_enter Tryz.func81, Tryz.ntmps81
  go_wp2
  go_ret
  refine ⟨_, _, rfl, ⟨Nat.le_refl _, ?_⟩, ⟨?_, ?_⟩, below2 _ _ _⟩
  · rw [Below.heap_alloc _ _ _ (by first | omega | (simp; done) | (simp; omega))]; exact heap_alloc_new _ _
  · first | omega | (simp; done) | (simp; omega)
  · simpa using heap_alloc_new (w.alloc (.cells #[.func (.func N) #[.pointer (some ⟨d, 0, none⟩)] #[]] 144)) (.cells #[.string s] 9)
set_option maxRecDepth 100000 in
set_option maxHeartbeats 400000 in
theorem noted_any (w : World) (N b : Nat) :
    Calls Tryz.prog 77 #[.func (.func N) #[] #[.pointer (some ⟨b, 0, none⟩)]] w fun e w' => ∃ b0, e = .returned (.func (.func 120) #[] #[.pointer (some ⟨b0, 0, none⟩)]) ∧ Nb w w' b0 (.func (.func N) #[] #[.pointer (some ⟨b, 0, none⟩)]) 1 ∧ Below w.heap.size w w' := by
  have hmf : ∀ (fn : Fn) (first cap : Array Value) (w : World), (Instr.makeFunc fn first cap).run Tryz.prog w = .ok (.func fn first cap) w := fun _ _ _ _ => rfl
  go_enter Tryz.func77, Tryz.ntmps77
  go_wp2
  go_ret
  exact ⟨_, rfl, ⟨Nat.le_refl _, heap_alloc_new _ _⟩, (Below.refl _ _).alloc (Nat.le_refl _) _⟩

def goodN (J : Jr) : Nat := (J.recs.map List.length).sum
theorem sum_take (l : List Nat) (j x : Nat) (h : l[j]? = some x) : (l.take (j + 1)).sum = (l.take j).sum + x := by
  rw [List.take_add_one, h]
  simp
theorem sum_take_le : ∀ (l : List Nat) (j : Nat), (l.take j).sum ≤ l.sum
  | [], j => by simp
  | a :: l, 0 => by simp
  | a :: l, j + 1 => by simp; exact sum_take_le l j
set_option maxRecDepth 100000 in
set_option maxHeartbeats 400000 in
theorem good_any (w : World) (K : Knd) (o d jb : Nat) (J : Jr) (h : Jk w K o d jb J) (hs : goodN J ≤ 1099511627776) (hk : J.recs.length ≤ 1099511627776) :
    Calls Tryz.prog 76 #[.pointer (some ⟨jb, 0, none⟩)] w fun e w' => e = .returned (.int .i64 (goodN J : Int)) ∧ w' = w := by
  obtain ⟨rv, vs, hm⟩ := h
  have hb := hm.blk
  unfold jcells at hb
  obtain ⟨ra, rc, hrv, _, _⟩ := hm.row.form
  subst hrv
  obtain ⟨k, hkk⟩ : ∃ k, J.recs.length = k := ⟨_, rfl⟩
  rw [hkk] at hb hk
  have HK := hide hkk
  have HM := hide hm
  have HS := hide hs
  obtain ⟨q0, q1, q2, q3, q4, q5, q6, qf⟩ := blk7 hb
  clear hm hb hkk hs
  go_enter Tryz.func76, Tryz.ntmps76
  go_wp2
  clear q0 q1 q2 q3 q4 q5 q6 qf
  go_loop [3, 11] (fun l i => ∃ (j n : Nat), j ≤ k ∧ i = .int .i64 (j : Int) ∧ l = .int .i64 (n : Int) ∧ Hid (n = ((J.recs.map List.length).take j).sum)) (fun _ i => k - (intOf i).toNat)
  case atStart => exact ⟨0, 0, Nat.zero_le _, rfl, rfl, by show _ = _; simp⟩
  case round =>
    obtain ⟨j, n, hj, rfl, rfl, HN⟩ := hrel
    by_cases hlt : j < k
    · have i1 : (0 : Int) ≤ (j : Int) := by omega
      have i2 : (j : Int) < (k : Int) := by omega
      obtain ⟨r, hr⟩ : ∃ r, J.recs[j]? = some r := ⟨_, List.getElem?_eq_getElem (by rw [HK.out]; exact hlt)⟩
      obtain ⟨g, q, rc2, u1, u2, u3, u4, u5, u6⟩ := HM.out.recs j r hr
      obtain ⟨rg, e1, c0⟩ : ∃ rg, ra = some ⟨rg, 0, none⟩ ∧ w.cell? ⟨rg, j, none⟩ = some (.slice (some ⟨g, q, none⟩) r.length rc2) := by
        have hro := HM.out.row.own
        rw [HK.out] at hro
        rcases hro.2 with ⟨_, e2⟩ | ⟨g', cap, cur, e1, _, hg, e3, e4, e5, e6⟩
        · omega
        · cases e1
          refine ⟨g', rfl, ?_⟩
          rw [← e6, List.getElem?_take, if_pos (by omega)] at u1
          simp only [World.cell?, hg]
          simpa using u1
      subst e1
      have HNx : Hid (n + r.length = ((J.recs.map List.length).take (j + 1)).sum) := by
        show _ = _
        rw [sum_take _ j r.length (by rw [List.getElem?_map, hr]; rfl), HN.out]
      have hnb : n + r.length ≤ 1099511627776 := by
        have h1 := HNx.out
        have h2 := sum_take_le (J.recs.map List.length) (j + 1)
        have h3 : (J.recs.map List.length).sum ≤ 1099511627776 := HS.out
        omega
      obtain ⟨rl, hrl⟩ : ∃ rl, r.length = rl := ⟨_, rfl⟩
      rw [hrl] at c0 HNx hnb
      clear hr u1 u2 u3 u4 u5 u6 hrl
      have hsum : ((n + rl : Nat) : Int) = (n : Int) + (rl : Int) := by omega
      go_wp2
      go_round
      case rel => exact ⟨j + 1, n + rl, by omega, by go_num, by go_num, HNx⟩
      case measure => simp [intOf]; omega
    · obtain rfl : j = k := by omega
      have e0 : n = goodN J := by
        have := HN.out
        rw [List.take_of_length_le (by rw [List.length_map, HK.out]; exact Nat.le_refl _)] at this
        exact this
      go_wp2
      go_ret
      exact ⟨rfl, rfl⟩

end Go.Proofs.YtfdclebajninfaaGreatDoor
