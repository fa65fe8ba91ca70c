import Derived.Test.YthgggjdefhgfiaaNRef4
import Derived.Test.YthgggjdefhgfiaaQSb
namespace Go.Proofs.Ythgggjdefhgfiaa
open Go.RowKit Go.Maps

/-- A net and the document's, that hold the same. -/
structure Sl where
  nb : Nat
  fb : Nat
  N : Nt
def ptrN (x : Option Sl) : Value := .pointer (x.map fun s => ⟨s.nb, 0, none⟩)
def ptrF (x : Option Sl) : Value := .pointer (x.map fun s => ⟨s.fb, 0, none⟩)
structure Ok1 (w : World) (K : Knd) (k M : Nat) (s : Sl) : Prop where
  net : Nk w K (1 + k) s.nb s.N
  doc : Fk w K (3 + k) s.fb s.N
  room : s.N.room ≤ 8192
  le : s.N.row.length ≤ s.N.room
  lost : s.N.lost ≤ M
  small : ∀ m ∈ s.N.row, m.b.size ≤ 4096
def sgCells (x : Nat → Option Sl) (bb : Nat) (mark : Bool) : Array Value := #[ptrN (x 0), ptrN (x 1), ptrF (x 0), ptrF (x 1), .pointer (some ⟨bb, 0, none⟩), .bool mark]
/-- The Book beside, and whether what is told goes into it. -/
structure Bm where
  on : Bool
  L : Value
  M : Value
  A : Nat
  turn : Nat
  done : Nat
  used : Nat
  ks : List Q.Kl
  n : Nat
/-- What a Book keeps. -/
def P5 (q : Nat × Nat) : Prop := q = (5, 2)
structure Sg (w : World) (K : Knd) (sb bb M : Nat) (x : Nat → Option Sl) (mark : Bm) : Prop where
  blk : w.heap[sb]? = some (.cells (sgCells x bb mark.on) 56 (0, 0))
  ks : K sb = (5, 0)
  bt : Q.Bt P5 K w bb mark.L mark.M mark.A mark.turn mark.done mark.used mark.ks
  jn : Q.Jn mark.A mark.turn mark.done mark.used mark.ks mark.n
  ok : ∀ k s, k < 2 → x k = some s → Ok1 w K k M s
def upd (x : Nat → Option Sl) (k : Nat) (v : Option Sl) : Nat → Option Sl := fun j => if j = k then v else x j
theorem Ok1.kept {p : Nat × Nat → Prop} {K K' : Knd} {w w' : World} {k M : Nat} {s : Sl} (h : Ok1 w K k M s) (hk : Kp p K K' w w') (h1 : ∀ j, ¬ p (1 + k, j)) (h2 : ∀ j, ¬ p (3 + k, j)) : Ok1 w' K' k M s :=
  ⟨h.net.kept hk h1, h.doc.kept hk h2, h.room, h.le, h.lost, h.small⟩
theorem Sg.kept {p : Nat × Nat → Prop} {K K' : Knd} {w w' : World} {sb bb M : Nat} {x : Nat → Option Sl} {mark : Bm} (h : Sg w K sb bb M x mark) (hk : Kp p K K' w w') (hp : ∀ q, q.1 = 1 ∨ q.1 = 2 ∨ q.1 = 3 ∨ q.1 = 4 ∨ q.1 = 5 → ¬ p q) : Sg w' K' sb bb M x mark := by
  have l1 := lt_of_block h.blk
  refine ⟨(hk.block _ l1 (by rw [h.ks]; exact hp _ (by simp))).trans h.blk, (hk.same _ l1).trans h.ks, h.bt.keep hk (hp _ (by simp)) (hp _ (by simp)) (fun q e => by cases e; exact hp _ (by simp)), h.jn, fun k s hk2 e => (h.ok k s hk2 e).kept hk (fun j => hp _ ?_) (fun j => hp _ ?_)⟩
  · show 1 + k = 1 ∨ _; omega
  · show 3 + k = 1 ∨ _; omega
theorem Sg.below {K : Knd} {w w' : World} {sb bb M : Nat} {x : Nat → Option Sl} {mark : Bm} (h : Sg w K sb bb M x mark) (hb : Below w.heap.size w w') : Sg w' (ext K w.heap.size (0, 0)) sb bb M x mark :=
  h.kept (kp_below hb (fun _ => False) _ _) (fun _ _ h => h)
theorem Sg.more {K : Knd} {w : World} {sb bb M M' : Nat} {x : Nat → Option Sl} {mark : Bm} (h : Sg w K sb bb M x mark) (hM : M ≤ M') : Sg w K sb bb M' x mark :=
  ⟨h.blk, h.ks, h.bt, h.jn, fun k s hk e => have q := h.ok k s hk e; ⟨q.net, q.doc, q.room, q.le, Nat.le_trans q.lost hM, q.small⟩⟩
/-- What the k-th holds has turned. -/
theorem Sg.put {p : Nat × Nat → Prop} {K K' : Knd} {w w' : World} {sb bb M M' : Nat} {x : Nat → Option Sl} {mark : Bm} (h : Sg w K sb bb M x mark) {k : Nat} (hk2 : k < 2) {s : Sl} (hs : x k = some s) (hk : Kp p K K' w w') (hp : ∀ q, q.1 = 1 ∨ q.1 = 2 ∨ q.1 = 3 ∨ q.1 = 4 ∨ q.1 = 5 → q.1 ≠ 1 + k → q.1 ≠ 3 + k → ¬ p q) (hM : M ≤ M') {N' : Nt}
    (h1 : Nk w' K' (1 + k) s.nb N') (h2 : Fk w' K' (3 + k) s.fb N') (h3 : N'.room = s.N.room) (h4 : N'.row.length ≤ N'.room) (h5 : N'.lost ≤ M') (h6 : ∀ m ∈ N'.row, m.b.size ≤ 4096) : Sg w' K' sb bb M' (upd x k (some ⟨s.nb, s.fb, N'⟩)) mark := by
  have l1 := lt_of_block h.blk
  have e1 : ∀ j, ptrN (upd x k (some ⟨s.nb, s.fb, N'⟩) j) = ptrN (x j) := fun j => by unfold upd; split; rename_i e; rw [e, hs]; rfl; rfl
  have e2 : ∀ j, ptrF (upd x k (some ⟨s.nb, s.fb, N'⟩) j) = ptrF (x j) := fun j => by unfold upd; split; rename_i e; rw [e, hs]; rfl; rfl
  refine ⟨?_, (hk.same _ l1).trans h.ks, h.bt.keep hk (hp _ (by simp) (by show 5 ≠ 1 + k; omega) (by show 5 ≠ 3 + k; omega)) (hp _ (by simp) (by show 5 ≠ 1 + k; omega) (by show 5 ≠ 3 + k; omega)) (fun q e => by cases e; exact hp _ (by simp) (by show 5 ≠ 1 + k; omega) (by show 5 ≠ 3 + k; omega)), h.jn, fun j s' hj e => ?_⟩
  · unfold sgCells
    rw [e1, e1, e2, e2]
    exact (hk.block _ l1 (by rw [h.ks]; exact hp _ (by simp) (by show 5 ≠ 1 + k; omega) (by show 5 ≠ 3 + k; omega))).trans h.blk
  · unfold upd at e
    split at e
    · rename_i e'
      subst e'
      cases e
      exact ⟨h1, h2, by rw [h3]; exact (h.ok _ s hk2 hs).room, h4, h5, h6⟩
    · rename_i hne
      have q := (h.ok j s' hj e).kept hk (fun i => hp _ (by show 1 + j = 1 ∨ _; omega) (by show 1 + j ≠ 1 + k; omega) (by show 1 + j ≠ 3 + k; omega)) (fun i => hp _ (by show 3 + j = 1 ∨ _; omega) (by show 3 + j ≠ 1 + k; omega) (by show 3 + j ≠ 3 + k; omega))
      exact ⟨q.net, q.doc, q.room, q.le, Nat.le_trans q.lost hM, q.small⟩
theorem Sg.cells {K : Knd} {w : World} {sb bb M : Nat} {x : Nat → Option Sl} {mark : Bm} (h : Sg w K sb bb M x mark) {k : Nat} (hk : k < 2) : w.cell? ⟨sb, k, none⟩ = some (ptrN (x k)) ∧ w.cell? ⟨sb, 2 + k, none⟩ = some (ptrF (x k)) ∧ w.cell? ⟨sb, 4, none⟩ = some (.pointer (some ⟨bb, 0, none⟩)) ∧ w.cell? ⟨sb, 5, none⟩ = some (.bool mark.on) ∧ (∀ o, w.frozen? ⟨sb, o, none⟩ = false) := by
  have hb := h.blk
  unfold sgCells at hb
  have h2 : k = 0 ∨ k = 1 := by omega
  rcases h2 with e | e <;> subst e <;> exact ⟨by simp [World.cell?, hb], by simp [World.cell?, hb], by simp [World.cell?, hb], by simp [World.cell?, hb], fun o => by simp [World.frozen?, hb]⟩

def FrPost (K : Knd) (sb bb M : Nat) (mark : Bm) (w : World) (e : Ending) (w' : World) : Prop := e = .returned (.bool true) ∧ ∃ K' x', Sg w' K' sb bb M x' mark ∧ Kp (fun q => q = (5, 0)) K K' w w'
theorem fresh_done {K : Knd} {w w2 : World} {sb bb M k : Nat} {x : Nat → Option Sl} {mark : Bm} (h : Sg w K sb bb M x mark) (hk : k < 2) {K2 : Knd} (hkp : Kp (fun _ => False) K K2 w w2) (v : Option Sl) (hv : ∀ s, v = some s → Ok1 w2 K2 k M s) :
    Sg ((w2.setCell ⟨sb, k, none⟩ (ptrN v)).setCell ⟨sb, 2 + k, none⟩ (ptrF v)) K2 sb bb M (upd x k v) mark ∧ Kp (fun q => q = (5, 0)) K K2 w ((w2.setCell ⟨sb, k, none⟩ (ptrN v)).setCell ⟨sb, 2 + k, none⟩ (ptrF v)) := by
  have h2 := h.kept hkp (fun _ _ h => h)
  have kp : Kp (fun q => q = (5, 0)) K2 K2 w2 ((w2.setCell ⟨sb, k, none⟩ (ptrN v)).setCell ⟨sb, 2 + k, none⟩ (ptrF v)) := ((Kp.refl (fun q => q = (5, 0)) K2 w2).setCell (Or.inr h2.ks) _ _).setCell (Or.inr h2.ks) _ _
  refine ⟨?_, (hkp.mono (fun _ h => h.elim)).trans kp⟩
  refine ⟨?_, h2.ks, h2.bt.keep kp (by simp) (by simp) (fun q e e2 => by cases e; simp at e2), h2.jn, fun j s hj e => ?_⟩
  · rw [block_set (block_set h2.blk _)]
    have hc : k = 0 ∨ k = 1 := by omega
    rcases hc with e | e <;> subst e <;> rfl
  · have kq : ∀ i, 1 + i ≠ 5 → ∀ j, ¬ ((1 + i, j) : Nat × Nat) = (5, 0) := fun i hi j e => hi (by simpa using congrArg Prod.fst e)
    unfold upd at e
    split at e
    · rename_i e'
      subst e'
      exact (hv s e).kept kp (kq _ (by omega)) (fun q e => by have := congrArg Prod.fst e; simp at this; omega)
    · exact (h2.ok j s hj e).kept kp (kq _ (by omega)) (fun q e => by have := congrArg Prod.fst e; simp at this; omega)

set_option maxRecDepth 100000 in
set_option maxHeartbeats 2000000 in
theorem fresh_any (w : World) (K : Knd) (sb bb M : Nat) (x : Nat → Option Sl) (mark : Bm) (h : Sg w K sb bb M x mark) (k : Nat) (hk : k < 2) (z : Int) :
    Calls Try.prog 6 #[.pointer (some ⟨sb, 0, none⟩), .int .i64 (k : Int), .int .i64 z] w (FrPost K sb bb M mark w) := by
  have HN := hide (New_any w K (1 + k) z)
  have HH := hide h
  have hsl := lt_of_block h.blk
  have k0 : (0 : Int) ≤ (k : Int) := by omega
  have k1 : (k : Int) < 2 := by omega
  clear h
  go_enter Try.func6, Try.ntmps6
  go_wp2_with fail
  refine HN.out.mono ?_
  rintro e w1 ⟨hb1, ⟨hz, rfl, hn1⟩ | ⟨hz, rfl, h9⟩⟩
  · have HN1 := hide hn1
    have HZ := hide hz
    have HB1 := hide hb1
    have HF := hide (FNew_any w1 (ext K w.heap.size (1 + k, 1)) (3 + k) z)
    have hl1 := hn1.lt
    clear hn1 hb1 hz
    go_wp2_with fail
    refine HF.out.mono ?_
    rintro e w2 ⟨hb2, ⟨_, rfl, hn2⟩ | ⟨hf, _⟩⟩
    rotate_left
    · rw [HZ.out] at hf; cases hf
    have kp2 : Kp (fun _ => False) K (ext (ext K w.heap.size (1 + k, 1)) w1.heap.size (3 + k, 1)) w w2 := (kp_below HB1.out _ _ _).trans (kp_below hb2 _ _ _)
    have HS2 := hide (HH.out.kept kp2 (fun _ _ h => h))
    have HD := hide (fresh_done HH.out hk kp2 (some ⟨w.heap.size, w1.heap.size, ⟨z.toNat, [], 0⟩⟩) (fun s e => by
      cases e
      have hz := HZ.out
      unfold newR at hz
      simp at hz
      exact ⟨HN1.out.kept (kp_below hb2 (fun _ => False) _ _) (fun _ h => h), hn2, by show z.toNat ≤ _; omega, Nat.zero_le _, Nat.zero_le _, fun _ h => (by cases h)⟩))
    unfold ptrN ptrF at HD
    simp only [Option.map_some] at HD
    obtain ⟨c0, c1, c2, c3, cf⟩ := HS2.out.cells hk
    have hsl2 := lt_of_block HS2.out.blk
    clear hb2 hn2 kp2
    unfold ptrN at c0
    unfold ptrF at c1
    go_wp2_with fail
    refine (num_any _ 0).mono ?_
    rintro e w3 ⟨rfl, h9⟩
    subst h9
    go_wp2
    go_ret
    exact ⟨rfl, _, _, HD.out.1, HD.out.2⟩
  · have h9 := h9.symm
    subst h9
    have HZ := hide hz
    have HF := hide (FNew_any w K (3 + k) z)
    clear hz hb1
    go_wp2_with fail
    refine HF.out.mono ?_
    rintro e w2 ⟨hb2, ⟨hf, _⟩ | ⟨_, rfl, h9⟩⟩
    · rw [HZ.out] at hf; cases hf
    have h9 := h9.symm
    subst h9
    have HD := hide (fresh_done HH.out hk (Kp.refl _ _ _) none (fun s e => by cases e))
    unfold ptrN ptrF at HD
    simp only [Option.map_none] at HD
    obtain ⟨c0, c1, c2, c3, cf⟩ := HH.out.cells hk
    clear hb2
    unfold ptrN at c0
    unfold ptrF at c1
    go_wp2_with fail
    refine (num_any _ 60).mono ?_
    rintro e w3 ⟨rfl, h9⟩
    subst h9
    go_wp2
    go_ret
    exact ⟨rfl, _, _, HD.out.1, HD.out.2⟩

/-- What told leaves. -/
def ToPost (K : Knd) (sb bb M : Nat) (x : Nat → Option Sl) (mark : Bm) (w : World) (e : Ending) (w' : World) : Prop := e = .returned (.bool true) ∧ ∃ K' m', Sg w' K' sb bb M x m' ∧ (m'.on = mark.on ∧ m'.n ≤ mark.n + 1) ∧ Kp (fun q => q = (5, 1) ∨ q = (5, 2)) K K' w w'
theorem bq_bytes {w : World} {B n c : Nat} {p : Option Addr} {xs : List Nat} (h : Q.ownsQ true w B 5 1 (.slice p n c) n (vals xs)) (hs : ∀ x ∈ xs, x < 256) : Bytes w p xs := Q.owns_bytes h rfl hs
theorem bq_below {w w' : World} {B n : Nat} {v : Value} {xs : List Value} (h : Q.ownsQ true w B 5 1 v n xs) (hb : Below w.heap.size w w') : Q.ownsQ true w' B 5 1 v n xs := Q.owns_kept' h (fun g e => hb.block g (Q.owns_lt h g e))

set_option maxRecDepth 100000 in
set_option maxHeartbeats 1000000 in
theorem told_any (w : World) (K : Knd) (sb bb M : Nat) (x : Nat → Option Sl) (mark : Bm) (h : Sg w K sb bb M x mark) (to : Int) (ok : Bool) (sp sq : Option Addr) (n c1 c2 B : Nat) (xs : List Nat) (hl : xs.length = n) (hn : n ≤ 140737488355328) (h1 : Q.ownsQ true w B 5 1 (.slice sp n c1) n (vals xs)) (hs : ∀ x ∈ xs, x < 256) (h2 : Bytes w sq xs) (hmn : mark.n ≤ 5000)
    (hk : ∀ g, (Value.slice sp n c1).ownBlock = some g → K g = (5, 2)) (hf : ∀ k ∈ mark.ks, Q.Far (.slice sp n c1) k.val) :
    Calls Try.prog 29 #[.pointer (some ⟨sb, 0, none⟩), .agg #[.int .i64 to, .slice sp n c1], .bool ok, .agg #[.int .i64 to, .slice sq n c2], .bool ok] w (ToPost K sb bb M x mark w) := by
  obtain ⟨w1, hw1⟩ : ∃ w1, (w.alloc (.cells #[.int .i64 to, .slice sp n c1] 75)).alloc (.cells #[.int .i64 to, .slice sq n c2] 75) = w1 := ⟨_, rfl⟩
  have hb1 : Below w.heap.size w w1 := by rw [← hw1]; exact ((Below.refl _ _).alloc (Nat.le_refl _) _).alloc (by simp) _
  have hf1 : w1.heap[w.heap.size]? = some (.cells #[.int .i64 to, .slice sp n c1] 75 (0, 0)) := by
    rw [← hw1]
    exact (Below.heap_alloc _ _ _ (by simp)).trans (heap_alloc_new _ _)
  have HB1 := hide hb1
  have HF1 := hide hf1
  have HS := hide (same_any w1 to sp sq n c1 c2 xs hl hn ((bq_bytes h1 hs).below hb1) (h2.below hb1))
  have HSg := hide h
  have HR := hide h1
  have HKd := hide hk
  have HFr := hide hf
  clear hb1 h1 h2 hl h hf1 hk hf hs
  have n0 : w.heap.size < w.heap.size + 1 := by omega
  have HW1 := hide hw1
  clear hw1
  cases ok
  all_goals
    go_enter Try.func29, Try.ntmps29
    go_wp2_with fail
    rw [HW1.out]
    refine HS.out.mono ?_
    rintro e w2 ⟨rfl, hb2⟩
    have HB2 := hide (HB1.out.trans (hb2.mono HB1.out.size))
    have HS2 := hide (HSg.out.below HB2.out)
    obtain ⟨d0, d1, d2, d3, df⟩ := HS2.out.cells (show 0 < 2 by omega)
    have hf2 : w2.heap[w.heap.size]? = _ := (hb2.block _ (lt_of_block HF1.out)).trans HF1.out
    obtain ⟨e0, e1⟩ := blk2 hf2
    have hlf := lt_of_block hf2
    clear hb2 d0 d1 hf2
    cases hon : mark.on with
    | false =>
      rw [hon] at d3
      go_wp2
      go_ret
      exact ⟨rfl, _, mark, HS2.out, ⟨rfl, Nat.le_succ _⟩, kp_below HB2.out _ _ _⟩
    | true =>
      rw [hon] at d3
      have HK2 : Hid (Kp (fun _ => False) K (ext K w.heap.size (0, 0)) w w2.drew) := (kp_below HB2.out (fun _ => False) K (0, 0)).drew
      have HS3 := hide (HSg.out.kept HK2.out (fun _ _ h => h))
      have HC := hide (Q.bt_bytes P5 _ w2.drew bb _ _ _ _ _ _ _ _ sp n c1 xs HS3.out.bt HS3.out.jn hmn (Q.owns_mono (bq_below HR.out HB2.out.drew) (Nat.zero_le _)) HFr.out (fun g e => by
        show _ = _
        rw [ext_old _ _ (Q.owns_lt HR.out g e)]; exact HKd.out g e) hn)
      go_upto_region 3 with (fail)
      go_region_law (first | (go_simp; go_at_call 49; refine HC.out.mono ?_; rintro e w3 ⟨rfl, L3, M3, t3, u3, ks3, hb3, hj3, hk3⟩; have HB3 := hide hb3; have HJ3 := hide hj3; have HK3 := hide hk3; clear hb3 hj3 hk3))
      all_goals
        have hk3' := HK3.out.mono (q := fun q => q = (5, 1) ∨ q = (5, 2)) (fun q e => by rcases e with e | e | e; exact Or.inl e; exact Or.inr e; exact Or.inr e)
        have HF : Hid (Sg w3 _ sb bb M x ⟨mark.on, L3, M3, mark.A, t3, mark.done, u3, ks3, mark.n + 1⟩) := ⟨(hk3'.block _ (lt_of_block HS3.out.blk) (by rw [HS3.out.ks]; simp)).trans HS3.out.blk, (hk3'.same _ (lt_of_block HS3.out.blk)).trans HS3.out.ks, HB3.out, HJ3.out, fun k s hk e => (HS3.out.ok k s hk e).kept hk3' (fun j e => by rcases e with e | e <;> (have := congrArg Prod.fst e; simp at this; omega)) (fun j e => by rcases e with e | e <;> (have := congrArg Prod.fst e; simp at this; omega))⟩
        have HKf := hide ((HK2.out.mono (fun _ h => h.elim)).trans hk3')
        clear hk3'
        go_wp2
        go_ret
        exact ⟨rfl, _, _, HF.out, ⟨rfl, Nat.le_refl _⟩, HKf.out⟩

end Go.Proofs.Ythgggjdefhgfiaa
