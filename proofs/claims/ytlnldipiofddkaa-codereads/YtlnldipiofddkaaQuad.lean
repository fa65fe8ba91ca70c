import Derived.Test.YtlnldipiofddkaaReads
namespace Go.Proofs.Ytlnldipiofddkaa
open Go.RowKit

theorem bytes_block {w w' : World} {sp : Option Addr} {xs : List Nat} (h : Bytes w sp xs) (hk : ∀ p, sp = some p → w'.heap[p.block]? = w.heap[p.block]?) (hs : w.heap.size ≤ w'.heap.size) : Bytes w' sp xs := by
  refine ⟨h.small, ?_⟩
  rcases h.lie with h0 | ⟨g, o, rfl, hg, hc⟩
  · exact Or.inl h0
  · exact Or.inr ⟨g, o, rfl, Nat.lt_of_lt_of_le hg hs, fun j hj => by rw [World.cell?_of_block (w := w) (a := ⟨g, o + j, none⟩) (hk ⟨g, o, none⟩ rfl)]; exact hc j hj⟩
theorem Rd.blocks {w w' : World} {b h : Nat} {xs : List Nat} {a f : Nat} (r : Rd w b h xs a f) (h1 : w'.heap[b]? = w.heap[b]?) (h2 : w'.heap[h]? = w.heap[h]?) (hs : w.heap.size ≤ w'.heap.size) : Rd w' b h xs a f :=
  ⟨h1.trans r.blk, bytes_block r.held (fun p e => by cases e; exact h2) hs, r.len, r.le⟩
theorem Ey.blocks {w w' : World} {b : Nat} {sp : Option Addr} {c : Nat} {xs : List Nat} {a f : Nat} (r : Ey w b sp c xs a f) (h1 : w'.heap[b]? = w.heap[b]?) (h2 : ∀ p, sp = some p → w'.heap[p.block]? = w.heap[p.block]?) (hs : w.heap.size ≤ w'.heap.size) : Ey w' b sp c xs a f :=
  ⟨h1.trans r.blk, bytes_block r.held h2 hs, r.form, r.len, r.cap, r.most, r.le⟩

/-- All that a Reader and the document's hold lies from lo to hi. -/
structure Within (lo hi b h b2 : Nat) (sp : Option Addr) : Prop where
  r1 : lo ≤ b ∧ b < hi
  r2 : lo ≤ h ∧ h < hi
  r3 : lo ≤ b2 ∧ b2 < hi
  r4 : ∀ p, sp = some p → lo ≤ p.block ∧ p.block < hi
theorem Duo.blocks {w w' : World} {b h b2 : Nat} {sp : Option Addr} {c : Nat} {xs : List Nat} {a f lo hi : Nat} (d : Duo w b h b2 sp c xs a f) (i : Within lo hi b h b2 sp) (hk : ∀ k, lo ≤ k → k < hi → w'.heap[k]? = w.heap[k]?) (hs : w.heap.size ≤ w'.heap.size) : Duo w' b h b2 sp c xs a f :=
  ⟨d.rd.blocks (hk _ i.r1.1 i.r1.2) (hk _ i.r2.1 i.r2.2) hs, d.ey.blocks (hk _ i.r3.1 i.r3.2) (fun p e => hk _ (i.r4 p e).1 (i.r4 p e).2) hs⟩

/-- The script's block and the two arrays. -/
structure Arr (w wr : World) (N A E : Nat) (C : Array Value) (r0 r1 e0 e1 : Option Addr) : Prop where
  box : wr.heap[N]? = some (.cells C 26 (0, 0))
  aa : wr.heap[A]? = some (.cells #[.pointer r0, .pointer r1] 42 (0, 0))
  ee : wr.heap[E]? = some (.cells #[.pointer e0, .pointer e1] 44 (0, 0))
  below : Below N w wr
  o1 : N < A
  o2 : A < E
theorem Arr.lt {w wr : World} {N A E : Nat} {C : Array Value} {r0 r1 e0 e1 : Option Addr} (p : Arr w wr N A E C r0 r1 e0 e1) : E < wr.heap.size := lt_of_block p.ee
theorem Arr.kept {w wr w' : World} {N A E : Nat} {C : Array Value} {r0 r1 e0 e1 : Option Addr} {S : Nat → Prop} (p : Arr w wr N A E C r0 r1 e0 e1) (k : Kept S wr w') (hS : ∀ i, S i → E < i) : Arr w w' N A E C r0 r1 e0 e1 := by
  have o1 := p.o1
  have o2 := p.o2
  have hE := p.lt
  exact ⟨(k.block _ (by omega) (fun s => by have := hS _ s; omega)).trans p.box, (k.block _ (by omega) (fun s => by have := hS _ s; omega)).trans p.aa, (k.block _ (by omega) (fun s => by have := hS _ s; omega)).trans p.ee, k.below p.below (by omega) (fun i s => by have := hS _ s; omega), o1, o2⟩
theorem Arr.belowE {w wr w' : World} {N A E : Nat} {C : Array Value} {r0 r1 e0 e1 : Option Addr} (p : Arr w wr N A E C r0 r1 e0 e1) (k : Below wr.heap.size wr w') : Arr w w' N A E C r0 r1 e0 e1 :=
  p.kept (kept_below (S := fun _ => False) k) (fun _ h => h.elim)
theorem Arr.setA0 {w wr : World} {N A E : Nat} {C : Array Value} {r0 r1 e0 e1 : Option Addr} (p : Arr w wr N A E C r0 r1 e0 e1) (r : Option Addr) : Arr w (wr.setCell ⟨A, 0, none⟩ (.pointer r)) N A E C r r1 e0 e1 := by
  have o1 := p.o1
  have o2 := p.o2
  exact ⟨(Below.heap_setCell _ _ _ _ (by simp; omega)).trans p.box, by rw [block_set p.aa]; rfl, (Below.heap_setCell _ _ _ _ (by simp; omega)).trans p.ee, p.below.setCell (by simp; omega) _, o1, o2⟩
theorem Arr.setA1 {w wr : World} {N A E : Nat} {C : Array Value} {r0 r1 e0 e1 : Option Addr} (p : Arr w wr N A E C r0 r1 e0 e1) (r : Option Addr) : Arr w (wr.setCell ⟨A, 1, none⟩ (.pointer r)) N A E C r0 r e0 e1 := by
  have o1 := p.o1
  have o2 := p.o2
  exact ⟨(Below.heap_setCell _ _ _ _ (by simp; omega)).trans p.box, by rw [block_set p.aa]; rfl, (Below.heap_setCell _ _ _ _ (by simp; omega)).trans p.ee, p.below.setCell (by simp; omega) _, o1, o2⟩
theorem Arr.setE0 {w wr : World} {N A E : Nat} {C : Array Value} {r0 r1 e0 e1 : Option Addr} (p : Arr w wr N A E C r0 r1 e0 e1) (r : Option Addr) : Arr w (wr.setCell ⟨E, 0, none⟩ (.pointer r)) N A E C r0 r1 r e1 := by
  have o1 := p.o1
  have o2 := p.o2
  exact ⟨(Below.heap_setCell _ _ _ _ (by simp; omega)).trans p.box, (Below.heap_setCell _ _ _ _ (by simp; omega)).trans p.aa, by rw [block_set p.ee]; rfl, p.below.setCell (by simp; omega) _, o1, o2⟩
theorem Arr.setE1 {w wr : World} {N A E : Nat} {C : Array Value} {r0 r1 e0 e1 : Option Addr} (p : Arr w wr N A E C r0 r1 e0 e1) (r : Option Addr) : Arr w (wr.setCell ⟨E, 1, none⟩ (.pointer r)) N A E C r0 r1 e0 r := by
  have o1 := p.o1
  have o2 := p.o2
  exact ⟨(Below.heap_setCell _ _ _ _ (by simp; omega)).trans p.box, (Below.heap_setCell _ _ _ _ (by simp; omega)).trans p.aa, by rw [block_set p.ee]; rfl, p.below.setCell (by simp; omega) _, o1, o2⟩

/-- TWO READERS, THE DOCUMENT's BESIDE EACH. -/
structure Quad (w wr : World) (N A E U V : Nat) (C : Array Value) (b h b2 : Nat) (sp : Option Addr) (c : Nat) (xs : List Nat) (a f : Nat) (b' h' b2' : Nat) (sp' : Option Addr) (c' : Nat) (xs' : List Nat) (a' f' : Nat) : Prop where
  arr : Arr w wr N A E C (some ⟨b, 0, none⟩) (some ⟨b', 0, none⟩) (some ⟨b2, 0, none⟩) (some ⟨b2', 0, none⟩)
  d0 : Duo wr b h b2 sp c xs a f
  d1 : Duo wr b' h' b2' sp' c' xs' a' f'
  i0 : Within (E + 1) U b h b2 sp
  i1 : Within U V b' h' b2' sp'
  vl : V ≤ wr.heap.size

section
variable {w wr w2 : World} {N A E U V : Nat} {C : Array Value} {b h b2 : Nat} {sp : Option Addr} {c : Nat} {xs : List Nat} {a f : Nat} {b' h' b2' : Nat} {sp' : Option Addr} {c' : Nat} {xs' : List Nat} {a' f' : Nat}
theorem Quad.step0 (q : Quad w wr N A E U V C b h b2 sp c xs a f b' h' b2' sp' c' xs' a' f') {x y : Nat} (d : Duo w2 b h b2 sp c xs x y) (k : Kept (fun k => k = b ∨ k = b2) wr w2) : Quad w w2 N A E U V C b h b2 sp c xs x y b' h' b2' sp' c' xs' a' f' := by
  have h1 := q.i0.r1
  have h2 := q.i0.r3
  have h3 := q.i1.r1
  have hv := q.vl
  exact ⟨q.arr.kept k (fun i hi => by omega), d, q.d1.blocks q.i1 (fun i hi hl => k.block i (by omega) (by omega)) k.size, q.i0, q.i1, Nat.le_trans q.vl k.size⟩
theorem Quad.step1 (q : Quad w wr N A E U V C b h b2 sp c xs a f b' h' b2' sp' c' xs' a' f') {x y : Nat} (d : Duo w2 b' h' b2' sp' c' xs' x y) (k : Kept (fun k => k = b' ∨ k = b2') wr w2) : Quad w w2 N A E U V C b h b2 sp c xs a f b' h' b2' sp' c' xs' x y := by
  have h1 := q.i1.r1
  have h2 := q.i1.r3
  have h3 := q.i0.r1
  have hv := q.vl
  exact ⟨q.arr.kept k (fun i hi => by omega), q.d0.blocks q.i0 (fun i hi hl => k.block i (by omega) (by omega)) k.size, d, q.i0, q.i1, Nat.le_trans q.vl k.size⟩
theorem Quad.below (q : Quad w wr N A E U V C b h b2 sp c xs a f b' h' b2' sp' c' xs' a' f') (k : Below wr.heap.size wr w2) : Quad w w2 N A E U V C b h b2 sp c xs a f b' h' b2' sp' c' xs' a' f' :=
  ⟨q.arr.belowE k, q.d0.below k, q.d1.below k, q.i0, q.i1, Nat.le_trans q.vl k.size⟩
end

/-- A Reader and the document's as they are made of what was lent. u: the world ahead of that. -/
structure Fresh (u wm : World) (E g c0 b h b2 : Nat) (sp : Option Addr) (c : Nat) (xs : List Nat) : Prop where
  own : Own u.heap.size wm g c0 (xs ++ marks)
  duo : Duo wm b h b2 sp c xs 0 0
  lo : u.heap.size ≤ b ∧ u.heap.size ≤ h ∧ u.heap.size ≤ b2 ∧ ∀ p, sp = some p → u.heap.size ≤ p.block
  hi : b < wm.heap.size ∧ h < wm.heap.size ∧ b2 < wm.heap.size ∧ ∀ p, sp = some p → p.block < wm.heap.size
  ne : b ≠ g ∧ h ≠ g ∧ b2 ≠ g ∧ ∀ p, sp = some p → p.block ≠ g
  kept : Kept (fun k => k ≤ E) u wm

theorem Fresh.below {u wm w' : World} {E g c0 b h b2 : Nat} {sp : Option Addr} {c : Nat} {xs : List Nat} (r : Fresh u wm E g c0 b h b2 sp c xs) (k : Below wm.heap.size wm w') : Fresh u w' E g c0 b h b2 sp c xs := by
  have hs := k.size
  obtain ⟨h1, h2, h3, h4⟩ := r.hi
  exact ⟨r.own.kept (k.block g r.own.lt), r.duo.below k, r.lo, ⟨by omega, by omega, by omega, fun p e => by have := h4 p e; omega⟩, r.ne, r.kept.trans (kept_below (S := fun _ => False) k) (fun _ h => h.elim)⟩
theorem Fresh.fill {u wm w' : World} {E g c0 b h b2 : Nat} {sp : Option Addr} {c : Nat} {xs : List Nat} (r : Fresh u wm E g c0 b h b2 sp c xs) (k : But g wm w') : Duo w' b h b2 sp c xs 0 0 ∧ Within u.heap.size w'.heap.size b h b2 sp ∧ Kept (fun k => k ≤ E) u w' := by
  have hs := k.size
  obtain ⟨h1, h2, h3, h4⟩ := r.hi
  obtain ⟨l1, l2, l3, l4⟩ := r.lo
  obtain ⟨n1, n2, n3, n4⟩ := r.ne
  have hg := r.own.base
  refine ⟨⟨r.duo.rd.blocks (k.block _ h1 n1) (k.block _ h2 n2) hs, r.duo.ey.blocks (k.block _ h3 n3) (fun p e => k.block _ (h4 p e) (n4 p e)) hs⟩, ⟨⟨l1, by omega⟩, ⟨l2, by omega⟩, ⟨l3, by omega⟩, fun p e => ⟨l4 p e, by have := h4 p e; omega⟩⟩, r.kept.trans (kept_but k) (fun i e => Or.inr (by omega))⟩

theorem fresh_of {u w1 w2 w4 : World} {A E i j g c0 m k4 : Nat} {s4 : Option Addr} {xs : List Nat} {p q : Value} (hA : A < E) (hE : E < u.heap.size) (hm : xs.length = m) (hml : m ≤ 140737488351232) (hb1 : Below u.heap.size u w1) (ho1 : Own u.heap.size w1 g c0 (xs ++ marks)) (hb2 : Below w1.heap.size w1 w2) (hr2 : Rd w2 (w1.heap.size + 1) w1.heap.size xs 0 0)
    (hb4 : Below (w2.setCell ⟨A, i, none⟩ p).heap.size (w2.setCell ⟨A, i, none⟩ p) w4) (hown4 : w4.ownsRow (w2.setCell ⟨A, i, none⟩ p).heap.size 5 1 (.slice s4 m k4) m (vals xs)) (hk4 : k4 ≤ 9223372036854775807) :
    Fresh u ((w4.alloc (.cells #[.slice s4 m k4, .int .i64 0, .int .i64 0] 48)).setCell ⟨E, j, none⟩ q) E g c0 (w1.heap.size + 1) w1.heap.size w4.heap.size s4 k4 xs := by
  have z1 := hb1.size
  have z2 := hb2.size
  have zg := ho1.lt
  have zr := hr2.lt
  have e3 : (w2.setCell ⟨A, i, none⟩ p).heap.size = w2.heap.size := by simp
  rw [e3] at hb4 hown4
  have z4 := hb4.size
  rw [e3] at z4
  have e5 : ∀ k, k < w4.heap.size → k ≠ E → ((w4.alloc (.cells #[.slice s4 m k4, .int .i64 0, .int .i64 0] 48)).setCell ⟨E, j, none⟩ q).heap[k]? = w4.heap[k]? := fun k hk hne => by
    rw [Below.heap_setCell _ _ _ _ hne, Below.heap_alloc _ _ _ hk]
  have e4 : ∀ k, k < w2.heap.size → k ≠ A → w4.heap[k]? = w2.heap[k]? := fun k hk hne => by rw [hb4.block k hk, Below.heap_setCell _ _ _ _ hne]
  have e6 : ((w4.alloc (.cells #[.slice s4 m k4, .int .i64 0, .int .i64 0] 48)).setCell ⟨E, j, none⟩ q).heap.size = w4.heap.size + 1 := by simp
  have hlt4 : ∀ a, s4 = some a → w2.heap.size ≤ a.block ∧ a.block < w4.heap.size := fun a e => by
    subst e
    rcases hown4.2 with ⟨h1, _⟩ | ⟨g', cap, cur, h1, hb, hg, _⟩
    · cases h1
    · cases h1; exact ⟨hb, lt_of_block hg⟩
  have hform : (s4 = none ∧ k4 = 0 ∧ xs = []) ∨ ∃ g o, s4 = some ⟨g, o, none⟩ := by
    rcases hown4.2 with ⟨h1, h2⟩ | ⟨g', cap, cur, h1, _⟩
    · cases h1; exact Or.inl ⟨rfl, rfl, List.eq_nil_of_length_eq_zero (by omega)⟩
    · cases h1; exact Or.inr ⟨_, _, rfl⟩
  have hcap : m ≤ k4 := by
    rcases hown4.2 with ⟨h1, h2⟩ | ⟨g', cap, cur, h1, _, _, h3, _⟩
    · cases h1; omega
    · cases h1; exact h3
  have hby4 : Bytes w4 s4 xs := owns_bytes hown4 hr2.held.small
  refine ⟨ho1.kept ?_, ⟨hr2.blocks ?_ ?_ (by omega), ⟨?_, bytes_block hby4 (fun a e => e5 _ (hlt4 a e).2 (by have := hlt4 a e; omega)) (by omega), hform, by rw [hm]; exact hml, by rw [hm]; exact hcap, hk4, Nat.zero_le _⟩⟩, ⟨by omega, by omega, by omega, fun a e => by have := hlt4 a e; omega⟩, ⟨by omega, by omega, by omega, fun a e => by have := hlt4 a e; omega⟩, ⟨by omega, by omega, by omega, fun a e => by have := hlt4 a e; omega⟩, ?_⟩
  · have hge := ho1.base
    rw [e5 g (by omega) (by omega), e4 g (by omega) (by omega), hb2.block g zg]
  · rw [e5 _ (by omega) (by omega), e4 _ zr (by omega)]
  · rw [e5 _ (by omega) (by omega), e4 _ (by omega) (by omega)]
  · rw [Below.heap_setCell _ _ _ _ (by simp; omega), heap_alloc_new, hm]
    rfl
  · have k1 : Kept (fun k => k ≤ E) u w2 := kept_below (hb1.trans (hb2.mono z1))
    have k3 : Kept (fun k => k ≤ E) u (w2.setCell ⟨A, i, none⟩ p) := k1.trans (kept_but ((But.refl A w2).setCell (p := ⟨A, i, none⟩) (Or.inl rfl) p)) (fun x e => Or.inl (by omega))
    have k4' : Kept (fun k => k ≤ E) u w4 := k3.trans (kept_below (S := fun _ => False) (by rw [e3]; exact hb4)) (fun _ h => h.elim)
    have k5 : Kept (fun k => k ≤ E) u (w4.alloc (.cells #[.slice s4 m k4, .int .i64 0, .int .i64 0] 48)) := k4'.trans (kept_below (S := fun _ => False) ((Below.refl _ _).alloc (Nat.le_refl _) _)) (fun _ h => h.elim)
    exact k5.trans (kept_but ((But.refl E _).setCell (p := ⟨E, j, none⟩) (Or.inl rfl) q)) (fun x e => Or.inl (by omega))

set_option maxRecDepth 100000 in
set_option maxHeartbeats 400000 in
theorem end_q (w : World) (b h : Nat) (xs : List Nat) (a f : Nat) (hr : Rd w b h xs a f) :
    Calls Try.prog 25 #[.pointer (some ⟨b, 0, none⟩)] w fun e w' => e = .returned (.int .i64 (pEnd xs.length a f : Nat)) ∧ ∃ q, w' = w.drewN q := by
  obtain ⟨q0, q1, q2, qf⟩ := blk3 hr.blk
  have HR := hide hr
  have h1 := hr.le
  have h2 := hr.len
  clear hr
  by_cases hf : f ≠ 0
  · rw [pEnd, if_pos hf]
    have hb : ((f : Int) == 0) = false := by simp; omega
    go_enter Try.func25, Try.ntmps25
    go_wp2
    go_ret
    exact ⟨rfl, 0, rfl⟩
  · obtain rfl : f = 0 := by omega
    rw [pEnd, if_neg hf]
    clear hf
    by_cases hlt : a < xs.length
    · rw [if_pos hlt]
      have h3 : (0 : Int) < ((xs.length - a : Nat) : Int) := by omega
      go_enter Try.func25, Try.ntmps25
      go_wp2_with fail
      refine (left_any _ b h xs a 0 HR.out).mono ?_
      rintro e w' ⟨rfl, rfl⟩
      go_wp2
      go_ret
      exact ⟨rfl, 1, rfl⟩
    · rw [if_neg hlt]
      have h3 : ¬ (0 : Int) < ((xs.length - a : Nat) : Int) := by omega
      go_enter Try.func25, Try.ntmps25
      go_wp2_with fail
      refine (left_any _ b h xs a 0 HR.out).mono ?_
      rintro e w' ⟨rfl, rfl⟩
      go_wp2
      go_ret
      exact ⟨rfl, 1, rfl⟩

set_option maxRecDepth 100000 in
set_option maxHeartbeats 400000 in
theorem eend_q (w : World) (b : Nat) (sp : Option Addr) (c : Nat) (xs : List Nat) (a f : Nat) (hr : Ey w b sp c xs a f) :
    Calls Try.prog 26 #[.pointer (some ⟨b, 0, none⟩)] w fun e w' => e = .returned (.int .i64 (pEnd xs.length a f : Nat)) ∧ ∃ q, w' = w.drewN q := by
  obtain ⟨q0, q1, q2, qf⟩ := blk3 hr.blk
  have HR := hide hr
  have h1 := hr.le
  have h2 := hr.len
  clear hr
  by_cases hf : f ≠ 0
  · rw [pEnd, if_pos hf]
    have hb : ((f : Int) == 0) = false := by simp; omega
    go_enter Try.func26, Try.ntmps26
    go_wp2
    go_ret
    exact ⟨rfl, 0, rfl⟩
  · obtain rfl : f = 0 := by omega
    rw [pEnd, if_neg hf]
    clear hf
    by_cases hlt : a < xs.length
    · rw [if_pos hlt]
      have h3 : (0 : Int) < ((xs.length - a : Nat) : Int) := by omega
      go_enter Try.func26, Try.ntmps26
      go_wp2_with fail
      refine (eleft_any _ b sp c xs a 0 HR.out).mono ?_
      rintro e w' ⟨rfl, rfl⟩
      go_wp2
      go_ret
      exact ⟨rfl, 1, rfl⟩
    · rw [if_neg hlt]
      have h3 : ¬ (0 : Int) < ((xs.length - a : Nat) : Int) := by omega
      go_enter Try.func26, Try.ntmps26
      go_wp2_with fail
      refine (eleft_any _ b sp c xs a 0 HR.out).mono ?_
      rintro e w' ⟨rfl, rfl⟩
      go_wp2
      go_ret
      exact ⟨rfl, 1, rfl⟩

end Go.Proofs.Ytlnldipiofddkaa
