import Derived.Test.YtplbnnfncngchaaPcE
import Derived.Deep.RegionHeld3
namespace Go.Proofs.Ytplbnnfncngchaa
open Go.RowKit

def MadePost (w : World) (z : Int) (e : Ending) (w' : World) : Prop :=
  ((1 ≤ z ∧ z ≤ 64) ∧ e = .returned (.tuple #[.pointer (some ⟨w.heap.size, 0, none⟩), .pointer (some ⟨w.heap.size + 1, 0, none⟩), .bool true]) ∧ Pk w' w.heap.size (.new z.toNat) ∧ Rf w' (w.heap.size + 1) z.toNat 0 ∧ Below w.heap.size w w' ∧ w'.heap.size = w.heap.size + 2) ∨
  (¬ (1 ≤ z ∧ z ≤ 64) ∧ e = .returned (.tuple #[.pointer none, .pointer none, .bool true]) ∧ w' = w)
set_option maxRecDepth 100000 in
set_option maxHeartbeats 1000000 in
theorem made_any (w : World) (z : Int) : Calls Try.prog 6 #[.int .i64 z] w (MadePost w z) := by
  have HN := hide (New_any w z)
  have HR := hide (fun w => RNew_any w z)
  by_cases hz : 1 ≤ z ∧ z ≤ 64
  · have HZ := hide hz
    clear hz
    go_enter Try.func6, Try.ntmps6
    go_wp2_with (first
      | (go_at_call 14; refine HN.out.mono ?_; rintro e w2 (⟨_, rfl, hp, hb, hs⟩ | ⟨h, _⟩); rotate_left; exact absurd HZ.out h; have HP := hide hp; have HB := hide hb; have HS := hide hs; clear hp hb hs)
      | (go_at_call 16; refine (HR.out _).mono ?_; rintro e w3 (⟨_, rfl, hp, hb, hs⟩ | ⟨h, _⟩); rotate_left; exact absurd HZ.out h; have HP3 := hide hp; have HB3 := hide hb; have HS3 := hide hs; clear hp hb hs))
    have e1 := HS.out
    have e2 := HS3.out
    have hb3 := HB3.out
    refine bodyPost_ret (v := .tuple #[.pointer (some ⟨w.heap.size, 0, none⟩), .pointer (some ⟨w2.heap.size, 0, none⟩), .bool true]) (by simp [results, Try.results6, go_sem]) rfl ?_
    refine Or.inl ⟨HZ.out, by rw [e1], HP.out.kept (hb3.block _ (by omega)), by rw [← e1]; exact HP3.out, HB.out.trans (hb3.mono (by omega)), by omega⟩
  · have HZ := hide hz
    clear hz
    go_enter Try.func6, Try.ntmps6
    go_wp2_with (first
      | (go_at_call 14; refine HN.out.mono ?_; rintro e w2 (⟨h, _⟩ | ⟨_, rfl, h⟩); exact absurd h HZ.out; obtain rfl := h.symm; clear h)
      | (go_at_call 16; refine (HR.out _).mono ?_; rintro e w3 (⟨h, _⟩ | ⟨_, rfl, h⟩); exact absurd h HZ.out; obtain rfl := h.symm; clear h))
    exact bodyPost_ret (v := .tuple #[.pointer none, .pointer none, .bool true]) (by simp [results, Try.results6, go_sem]) rfl (Or.inr ⟨HZ.out, rfl, rfl⟩)

def ptr (b : Nat) : Value := .pointer (some ⟨b, 0, none⟩)
def ptrs (n : Nat) (f : Nat → Nat) : Array Value := ((List.range 12).map fun k => if k < n then ptr (f k) else .pointer none).toArray
def upd (f : Nat → Nat) (k v : Nat) : Nat → Nat := fun j => if j = k then v else f j
theorem upd_at (f : Nat → Nat) (k v : Nat) : upd f k v k = v := by simp [upd]
theorem upd_no (f : Nat → Nat) {k j : Nat} (v : Nat) (h : j ≠ k) : upd f k v j = f j := by simp [upd, h]
theorem ptrs_at {n : Nat} {f : Nat → Nat} {k : Nat} (h : k < 12) : (ptrs n f)[k]? = some (if k < n then ptr (f k) else .pointer none) := by
  unfold ptrs
  simp [h]
theorem ptrs_set {n n' : Nat} {f : Nat → Nat} {k s : Nat} (_hk : k < 12) (hn : (k < n ∧ n' = n) ∨ (k = n ∧ n' = n + 1)) : (ptrs n f).setIfInBounds k (ptr s) = ptrs n' (upd f k s) := by
  apply Array.ext
  · simp [ptrs]
  · intro j h1 h2
    have hj : j < 12 := by simpa [ptrs] using h2
    have a1 : ((ptrs n f).setIfInBounds k (ptr s))[j]? = (ptrs n' (upd f k s))[j]? := by
      rw [Array.getElem?_setIfInBounds]
      by_cases e : k = j
      · subst e
        rw [if_pos rfl, if_pos (by simp [ptrs]; omega), ptrs_at hj, upd_at, if_pos (by omega)]
      · rw [if_neg e, ptrs_at hj, ptrs_at hj, upd_no _ _ (fun h => e h.symm)]
        rcases hn with ⟨_, rfl⟩ | ⟨rfl, rfl⟩
        · rfl
        · by_cases h : j < k
          · rw [if_pos h, if_pos (by omega)]
          · rw [if_neg h, if_neg (by omega)]
    rw [Array.getElem?_eq_getElem h1, Array.getElem?_eq_getElem h2] at a1
    exact Option.some.inj a1

/-- WHAT PaceExact HOLDS: its argument's box, two rows of pointers, n paces and as many of the document's. -/
structure Sg (w wr : World) (K : Knd) (bx : Obj) (n S : Nat) (pf qf mf nf : Nat → Nat) : Prop where
  box : wr.heap[w.heap.size]? = some bx
  ra : wr.heap[w.heap.size + 1]? = some (.cells (ptrs n pf) 27 (0, 0))
  rb : wr.heap[w.heap.size + 1 + 1]? = some (.cells (ptrs n qf) 29 (0, 0))
  n12 : n ≤ 12
  pk : ∀ k, k < n → Pk wr (pf k) (it (mf k) (nf k))
  rf : ∀ k, k < n → Rf wr (qf k) (mf k) (nf k)
  kp : ∀ k, k < n → K (pf k) = (1, k)
  kq : ∀ k, k < n → K (qf k) = (2, k)
  ks : K w.heap.size = (3, 0) ∧ K (w.heap.size + 1) = (3, 1) ∧ K (w.heap.size + 1 + 1) = (3, 2)
  m1 : ∀ k, k < n → 1 ≤ mf k ∧ mf k ≤ 64
  st : ∀ k, k < n → nf k ≤ S
  old : ∀ b, b < w.heap.size → K b = (0, 0)
  bel : Below w.heap.size w wr
section
variable {w wr : World} {K : Knd} {bx : Obj} {n S : Nat} {pf qf mf nf : Nat → Nat}
theorem Sg.cells (h : Sg w wr K bx n S pf qf mf nf) {k : Nat} (hk : k < n) : wr.cell? ⟨w.heap.size + 1, k, none⟩ = some (.pointer (some ⟨pf k, 0, none⟩)) ∧ wr.cell? ⟨w.heap.size + 1 + 1, k, none⟩ = some (.pointer (some ⟨qf k, 0, none⟩)) := by
  have h12 := h.n12
  constructor
  · simp only [World.cell?, h.ra]; rw [ptrs_at (by omega), if_pos hk]; rfl
  · simp only [World.cell?, h.rb]; rw [ptrs_at (by omega), if_pos hk]; rfl
theorem Sg.any (h : Sg w wr K bx n S pf qf mf nf) {k : Nat} (hk : k < 12) : ∃ v1 v2, wr.cell? ⟨w.heap.size + 1, k, none⟩ = some (.pointer v1) ∧ wr.cell? ⟨w.heap.size + 1 + 1, k, none⟩ = some (.pointer v2) ∧ wr.frozen? ⟨w.heap.size + 1, k, none⟩ = false ∧ wr.frozen? ⟨w.heap.size + 1 + 1, k, none⟩ = false := by
  have e1 : wr.cell? ⟨w.heap.size + 1, k, none⟩ = (ptrs n pf)[k]? := by simp [World.cell?, h.ra]
  have e2 : wr.cell? ⟨w.heap.size + 1 + 1, k, none⟩ = (ptrs n qf)[k]? := by simp [World.cell?, h.rb]
  rw [ptrs_at hk] at e1 e2
  by_cases hn : k < n
  · rw [if_pos hn] at e1 e2
    exact ⟨_, _, e1, e2, by simp [World.frozen?, h.ra], by simp [World.frozen?, h.rb]⟩
  · rw [if_neg hn] at e1 e2
    exact ⟨_, _, e1, e2, by simp [World.frozen?, h.ra], by simp [World.frozen?, h.rb]⟩
/-- Blocks of paces k alone have turned. -/
theorem Sg.turn (h : Sg w wr K bx n S pf qf mf nf) {w' : World} {k m S' : Nat} (hk : k < n) (ho : w'.os = wr.os) (ht : w'.tape = wr.tape) (hu : w'.output = wr.output) (hs : w'.heap.size = wr.heap.size) (hb : ∀ c, c ≠ pf k → c ≠ qf k → w'.heap[c]? = wr.heap[c]?)
    (hp : Pk w' (pf k) (it (mf k) m)) (hr : Rf w' (qf k) (mf k) m) (hS : S ≤ S') (hm : m ≤ S') : Sg w w' K bx n S' pf qf mf (upd nf k m) := by
  have far : ∀ b, K b ≠ (1, k) → K b ≠ (2, k) → w'.heap[b]? = wr.heap[b]? := fun b h1 h2 => hb b (fun e => h1 (by rw [e]; exact h.kp k hk)) (fun e => h2 (by rw [e]; exact h.kq k hk))
  obtain ⟨s1, s2, s3⟩ := h.ks
  refine ⟨(far _ (by rw [s1]; simp) (by rw [s1]; simp)).trans h.box, (far _ (by rw [s2]; simp) (by rw [s2]; simp)).trans h.ra, (far _ (by rw [s3]; simp) (by rw [s3]; simp)).trans h.rb, h.n12, fun j hj => ?_, fun j hj => ?_, h.kp, h.kq, h.ks, h.m1, fun j hj => ?_, h.old, ⟨ho.trans h.bel.os, ht.trans h.bel.tape, hu.trans h.bel.output, by rw [hs]; exact h.bel.size, fun b hb' => (far b (by rw [h.old b hb']; simp) (by rw [h.old b hb']; simp)).trans (h.bel.block b hb')⟩⟩
  · by_cases e : j = k
    · subst e; rw [upd_at]; exact hp
    · rw [upd_no _ _ e]; exact (h.pk j hj).kept (far _ (by rw [h.kp j hj]; simpa using e) (by rw [h.kp j hj]; simp))
  · by_cases e : j = k
    · subst e; rw [upd_at]; exact hr
    · rw [upd_no _ _ e]; exact (h.rf j hj).kept (far _ (by rw [h.kq j hj]; simp) (by rw [h.kq j hj]; simpa using e))
  · by_cases e : j = k
    · subst e; rw [upd_at]; exact hm
    · rw [upd_no _ _ e]; exact Nat.le_trans (h.st j hj) hS
theorem Sg.ne (h : Sg w wr K bx n S pf qf mf nf) {k : Nat} (hk : k < n) : pf k ≠ qf k := fun e => by
  have a := h.kp k hk
  rw [e, h.kq k hk] at a
  simp at a
theorem Sg.two (h : Sg w wr K bx n S pf qf mf nf) {w1 w2 : World} {k m S' : Nat} (hk : k < n) (h1 : Onl (pf k) wr w1) (h2 : Onl (qf k) w1 w2) (hp : Pk w1 (pf k) (it (mf k) m)) (hr : Rf w2 (qf k) (mf k) m) (hS : S ≤ S') (hm : m ≤ S') : Sg w w2 K bx n S' pf qf mf (upd nf k m) :=
  h.turn hk (h2.os.trans h1.os) (h2.tape.trans h1.tape) (h2.output.trans h1.output) (h2.size.trans h1.size) (fun c c1 c2 => (h2.block c c2).trans (h1.block c c1)) (hp.kept (h2.block _ (h.ne hk))) hr hS hm
theorem Sg.keepB (h : Sg w wr K bx n S pf qf mf nf) {w' : World} {k : Nat} (hk : k < n) (ho : Onl (pf k) wr w') : w'.cell? ⟨w.heap.size + 1 + 1, k, none⟩ = some (.pointer (some ⟨qf k, 0, none⟩)) := by
  have e : w'.heap[w.heap.size + 1 + 1]? = wr.heap[w.heap.size + 1 + 1]? := ho.block _ (fun e => by
    have a := h.kp k hk
    rw [← e, h.ks.2.2] at a
    simp at a)
  have := (h.cells hk).2
  simp only [World.cell?, e] at this ⊢
  exact this
theorem Sg.far (h : Sg w wr K bx n S pf qf mf nf) {k : Nat} (hk : k < n) : w.heap.size + 1 ≠ pf k ∧ w.heap.size + 1 + 1 ≠ pf k ∧ w.heap.size + 1 ≠ qf k ∧ w.heap.size + 1 + 1 ≠ qf k := by
  have a := h.kp k hk
  have b := h.kq k hk
  obtain ⟨s1, s2, s3⟩ := h.ks
  refine ⟨fun e => ?_, fun e => ?_, fun e => ?_, fun e => ?_⟩
  · rw [← e, s2] at a; simp at a
  · rw [← e, s3] at a; simp at a
  · rw [← e, s2] at b; simp at b
  · rw [← e, s3] at b; simp at b
theorem Onl.cell {b : Nat} {w w' : World} (h : Onl b w w') {c i : Nat} {v : Value} (hc : c ≠ b) (hv : w.cell? ⟨c, i, none⟩ = some v) : w'.cell? ⟨c, i, none⟩ = some v := by
  have e := h.block c hc
  simp only [World.cell?, e] at hv ⊢
  exact hv
theorem Sg.mono (h : Sg w wr K bx n S pf qf mf nf) {S' : Nat} (hS : S ≤ S') : Sg w wr K bx n S' pf qf mf nf := { h with st := fun k hk => Nat.le_trans (h.st k hk) hS }
theorem Sg.drew (h : Sg w wr K bx n S pf qf mf nf) : Sg w wr.drew K bx n S pf qf mf nf :=
  ⟨h.box, h.ra, h.rb, h.n12, h.pk, h.rf, h.kp, h.kq, h.ks, h.m1, h.st, h.old, ⟨h.bel.os, h.bel.tape, h.bel.output, h.bel.size, h.bel.block⟩⟩
theorem Sg.drewN (h : Sg w wr K bx n S pf qf mf nf) (q : Nat) : Sg w (wr.drewN q) K bx n S pf qf mf nf :=
  ⟨h.box, h.ra, h.rb, h.n12, h.pk, h.rf, h.kp, h.kq, h.ks, h.m1, h.st, h.old, ⟨h.bel.os, h.bel.tape, h.bel.output, h.bel.size, h.bel.block⟩⟩
theorem Sg.below (h : Sg w wr K bx n S pf qf mf nf) {w' : World} (hb : Below wr.heap.size wr w') : Sg w w' (ext K wr.heap.size (0, 0)) bx n S pf qf mf nf := by
  have lA := lt_of_block h.ra
  have lB := lt_of_block h.rb
  have lX := lt_of_block h.box
  obtain ⟨s1, s2, s3⟩ := h.ks
  have hs := h.bel.size
  exact ⟨(hb.block _ lX).trans h.box, (hb.block _ lA).trans h.ra, (hb.block _ lB).trans h.rb, h.n12, fun k hk => (h.pk k hk).kept (hb.block _ (lt_of_block (h.pk k hk))), fun k hk => (h.rf k hk).kept (hb.block _ (lt_of_block (h.rf k hk))),
    fun k hk => (ext_old _ _ (lt_of_block (h.pk k hk))).trans (h.kp k hk), fun k hk => (ext_old _ _ (lt_of_block (h.rf k hk))).trans (h.kq k hk), ⟨(ext_old _ _ lX).trans s1, (ext_old _ _ lA).trans s2, (ext_old _ _ lB).trans s3⟩, h.m1, h.st,
    fun b hb' => (ext_old _ _ (by omega)).trans (h.old b hb'), h.bel.trans (hb.mono hs)⟩
/-- Two new paces are laid in place k. -/
theorem Sg.put (h : Sg w wr K bx n S pf qf mf nf) {w' : World} {k m n' : Nat} (hn : (k < n ∧ n' = n) ∨ (k = n ∧ n' = n + 1)) (hk : k < 12) (hb : Below wr.heap.size wr w') (hp : Pk w' wr.heap.size (.new m)) (hr : Rf w' (wr.heap.size + 1) m 0) (h1 : 1 ≤ m) (h2 : m ≤ 64) :
    ∃ K', Sg w ((w'.setCell ⟨w.heap.size + 1, k, none⟩ (.pointer (some ⟨wr.heap.size, 0, none⟩))).setCell ⟨w.heap.size + 1 + 1, k, none⟩ (.pointer (some ⟨wr.heap.size + 1, 0, none⟩))) K' bx n' S (upd pf k wr.heap.size) (upd qf k (wr.heap.size + 1)) (upd mf k m) (upd nf k 0) := by
  have lA := lt_of_block h.ra
  have lB := lt_of_block h.rb
  have lX := lt_of_block h.box
  obtain ⟨s1, s2, s3⟩ := h.ks
  have hs := h.bel.size
  have hA := (hb.block _ lA).trans h.ra
  have hB := (hb.block _ lB).trans h.rb
  let wA := w'.setCell ⟨w.heap.size + 1, k, none⟩ (.pointer (some ⟨wr.heap.size, 0, none⟩))
  have oA : ∀ b, b ≠ w.heap.size + 1 → wA.heap[b]? = w'.heap[b]? := fun b e => Below.heap_setCell _ _ _ _ e
  have oB : ∀ b, b ≠ w.heap.size + 1 → b ≠ w.heap.size + 1 + 1 → (wA.setCell ⟨w.heap.size + 1 + 1, k, none⟩ (.pointer (some ⟨wr.heap.size + 1, 0, none⟩))).heap[b]? = w'.heap[b]? := fun b e1 e2 => (Below.heap_setCell _ _ _ _ e2).trans (oA b e1)
  have neA : ∀ b, K b ≠ (3, 1) → b ≠ w.heap.size + 1 := fun b e h' => e (by rw [h']; exact s2)
  have neB : ∀ b, K b ≠ (3, 2) → b ≠ w.heap.size + 1 + 1 := fun b e h' => e (by rw [h']; exact s3)
  refine ⟨fun b => if b < wr.heap.size then K b else if b = wr.heap.size then (1, k) else (2, k), ?_⟩
  have eK : ∀ b, b < wr.heap.size → (if b < wr.heap.size then K b else if b = wr.heap.size then (1, k) else (2, k)) = K b := fun b hb => if_pos hb
  refine ⟨(oB _ (by omega) (by omega)).trans ((hb.block _ lX).trans h.box), ?_, ?_, by have := h.n12; omega, fun j hj => ?_, fun j hj => ?_, fun j hj => ?_, fun j hj => ?_, ⟨(eK _ lX).trans s1, (eK _ lA).trans s2, (eK _ lB).trans s3⟩, fun j hj => ?_, fun j hj => ?_, fun b hb' => (eK _ (by omega)).trans (h.old b hb'), ?_⟩
  · rw [Below.heap_setCell _ _ _ _ (by show w.heap.size + 1 ≠ w.heap.size + 1 + 1; omega), heap_setCell_same _ _ _ _ _ _ hA]
    rw [show (Value.pointer (some ⟨wr.heap.size, 0, none⟩)) = ptr wr.heap.size from rfl, ptrs_set hk hn]
  · rw [heap_setCell_same _ _ _ _ _ _ ((oA _ (by omega)).trans hB)]
    rw [show (Value.pointer (some ⟨wr.heap.size + 1, 0, none⟩)) = ptr (wr.heap.size + 1) from rfl, ptrs_set hk hn]
  · by_cases e : j = k
    · subst e; rw [upd_at, upd_at, upd_at]; exact hp.kept (oB _ (by omega) (by omega))
    · have hj' : j < n := by omega
      rw [upd_no _ _ e, upd_no _ _ e, upd_no _ _ e]
      exact (h.pk j hj').kept ((oB _ (neA _ (by rw [h.kp j hj']; simp)) (neB _ (by rw [h.kp j hj']; simp))).trans (hb.block _ (lt_of_block (h.pk j hj'))))
  · by_cases e : j = k
    · subst e; rw [upd_at, upd_at, upd_at]; exact hr.kept (oB _ (by omega) (by omega))
    · have hj' : j < n := by omega
      rw [upd_no _ _ e, upd_no _ _ e, upd_no _ _ e]
      exact (h.rf j hj').kept ((oB _ (neA _ (by rw [h.kq j hj']; simp)) (neB _ (by rw [h.kq j hj']; simp))).trans (hb.block _ (lt_of_block (h.rf j hj'))))
  · by_cases e : j = k
    · subst e; rw [upd_at]; simp
    · have hj' : j < n := by omega
      rw [upd_no _ _ e]; exact (eK _ (lt_of_block (h.pk j hj'))).trans (h.kp j hj')
  · by_cases e : j = k
    · subst e; rw [upd_at]; simp; omega
    · have hj' : j < n := by omega
      rw [upd_no _ _ e]; exact (eK _ (lt_of_block (h.rf j hj'))).trans (h.kq j hj')
  · by_cases e : j = k
    · subst e; rw [upd_at]; exact ⟨h1, h2⟩
    · rw [upd_no _ _ e]; exact h.m1 j (by omega)
  · by_cases e : j = k
    · subst e; rw [upd_at]; exact Nat.zero_le _
    · rw [upd_no _ _ e]; exact h.st j (by omega)
  · have hb2 := h.bel.trans (hb.mono hs)
    exact (hb2.setCell (p := ⟨w.heap.size + 1, k, none⟩) (by show w.heap.size ≤ w.heap.size + 1; omega) _).setCell (p := ⟨w.heap.size + 1 + 1, k, none⟩) (by show w.heap.size ≤ w.heap.size + 1 + 1; omega) _
end
end Go.Proofs.Ytplbnnfncngchaa
