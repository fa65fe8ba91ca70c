import Derived.Test.YtephfdnneplcnaaDoorLkJ
import Derived.Laws.BitsAllLaws
namespace Go.Proofs.YtephfdnneplcnaaDoor
open Go.RowKit

theorem sum_flip {xs : List Nat} (hs : ∀ x ∈ xs, x < 256) {i : Nat} (hi : i < 8 * xs.length) : C.sumOf (C.flip xs i) ≠ C.sumOf xs := fun e => by
  have h := (C.sum_eq_iff _ _ (C.flip_small xs i hs) hs (C.flip_len xs i)).1 e
  rw [C.flip_len, C.val_flip xs i hi hs] at h
  have e2 : C.val xs ^^^ 2 ^ i ^^^ C.val xs = 2 ^ i * 1 := by
    rw [Nat.xor_comm (C.val xs) (2 ^ i), Nat.xor_assoc, Nat.xor_self, Nat.xor_zero, Nat.mul_one]
  rw [e2] at h
  have := (C.burst (8 * xs.length) i 1 (by omega) (by omega)).1 h
  omega
theorem flip_ne {xs : List Nat} {i : Nat} (hi : i < 8 * xs.length) (hs : ∀ x ∈ xs, x < 256) : C.flip xs i ≠ xs := fun e => sum_flip hs hi (by rw [e])
theorem flip_left (a b : List Nat) {i : Nat} (hi : i < 8 * a.length) : C.flip (a ++ b) i = C.flip a i ++ b := by
  have h : i / 8 < a.length := by omega
  unfold C.flip
  rw [List.set_append_left _ _ h]
  congr 2
  simp only [List.getD, List.getElem?_append_left h]
theorem flip_right (a b : List Nat) {i : Nat} (hi : 8 * a.length ≤ i) : C.flip (a ++ b) i = a ++ C.flip b (i - 8 * a.length) := by
  have h : a.length ≤ i / 8 := by omega
  have e1 : (i - 8 * a.length) / 8 = i / 8 - a.length := by omega
  have e2 : (i - 8 * a.length) % 8 = i % 8 := by omega
  unfold C.flip
  rw [List.set_append_right _ _ h, e1, e2]
  congr 2
  simp only [List.getD, List.getElem?_append_right h]
theorem be_inj : ∀ (a b : List Nat), a.length = b.length → (∀ x ∈ a, x < 256) → (∀ x ∈ b, x < 256) → C.be a = C.be b → a = b := by
  intro a
  rw [← List.reverse_reverse a]
  generalize a.reverse = u
  induction u with
  | nil => intro b hl _ _ _; exact (List.eq_nil_of_length_eq_zero (by simpa using hl.symm)).symm
  | cons x u ih =>
    intro b hl ha hb he
    rw [List.reverse_cons] at hl ha he ⊢
    have hne : b ≠ [] := by intro e; rw [e] at hl; simp at hl
    obtain ⟨b', y, rfl⟩ : ∃ b' y, b = b' ++ [y] := ⟨b.dropLast, b.getLast hne, (List.dropLast_concat_getLast hne).symm⟩
    rw [C.be_snoc, C.be_snoc] at he
    have hx := ha x (by simp)
    have hy := hb y (by simp)
    have e1 : x = y := by omega
    have e2 : C.be u.reverse = C.be b' := by omega
    rw [ih b' (by simpa using hl) (fun z hz => ha z (List.mem_append_left _ hz)) (fun z hz => hb z (List.mem_append_left _ hz)) e2, e1]
theorem be4 {n : Nat} (h : n < 4294967296) : C.be (C.beOf n 4) = n := by rw [C.be_beOf, Nat.mod_eq_of_lt (by rw [show (256 : Nat) ^ 4 = 4294967296 from rfl]; exact h)]
/-- Bytes with their sum behind them: with a bit turned they are no such bytes any more. -/
theorem flip_frame {x y : List Nat} (hx : ∀ z ∈ x, z < 256) (hy : ∀ z ∈ y, z < 256) (hl : y.length = x.length) {i : Nat} (hi : i < 8 * (x.length + 4)) : C.flip (x ++ C.beOf (C.sumOf x) 4) i ≠ y ++ C.beOf (C.sumOf y) 4 := fun e => by
  have sx := sum_lt x hx
  have sy := sum_lt y hy
  by_cases h : i < 8 * x.length
  · rw [flip_left _ _ h] at e
    obtain ⟨e1, e2⟩ := List.append_inj e (by rw [C.flip_len, hl])
    have e3 := congrArg C.be e2
    rw [be4 sx, be4 sy] at e3
    exact sum_flip hx h (by rw [e1, e3])
  · rw [flip_right _ _ (by omega)] at e
    obtain ⟨e1, e2⟩ := List.append_inj e hl.symm
    subst e1
    exact flip_ne (by rw [be_len]; omega) (be_small _ _) e2
theorem pow_m8 (i : Nat) : (2 : Int) ^ (i % 8) % 256 = ((2 ^ (i % 8) : Nat) : Int) := by
  have h := C.pow_lt8 i
  have e : ((2 ^ (i % 8) : Nat) : Int) = (2 : Int) ^ (i % 8) := by simp
  rw [← e]
  clear e
  generalize (2 : Nat) ^ (i % 8) = y at *
  omega
theorem flip_byte (xs : List Nat) (hs : ∀ x ∈ xs, x < 256) (i : Nat) : bits .xor .u8 ((xs[i / 8]?.getD 0 : Nat) : Int) ((2 : Int) ^ (i % 8) % 256) = ((xs.getD (i / 8) 0 ^^^ 2 ^ (i % 8) : Nat) : Int) := by
  rw [pow_m8]
  have := u8_xor_nat (xs.getD (i / 8) 0) (2 ^ (i % 8)) (C.getD_small hs _) (C.pow_lt8 i)
  simpa [List.getD] using this
theorem flip_vals (xs : List Nat) (i : Nat) : (vals xs).set (i / 8) (.int .u8 ((xs.getD (i / 8) 0 ^^^ 2 ^ (i % 8) : Nat) : Int)) = vals (C.flip xs i) := by
  unfold vals C.flip
  rw [List.map_set]
/-- What stands behind a frame's head changes nothing of it. -/
theorem read_head {f : Fr} (h : f.fit) (tail : List Nat) : frOf (f.head ++ tail) = f := by
  obtain ⟨h0, ht, h1, h2, h3, h4, h5, h6⟩ := h
  have d0 : (f.head ++ tail).drop 0 = C.beOf f.fr.toNat 1 ++ (C.beOf f.tt.toNat 1 ++ (vB f.mine ++ (vB f.yours ++ (vB f.seq ++ (vB f.ack ++ (tB f.body ++ tail)))))) := by
    rw [List.drop_zero]
    unfold Fr.head; simp only [List.append_assoc]
  obtain ⟨e1, d1⟩ := step_fix d0 (by omega)
  obtain ⟨e2, d2⟩ := step_fix d1 (by omega)
  obtain ⟨e3, d3⟩ := step_var d2 h1.2
  obtain ⟨e4, d4⟩ := step_var d3 h2
  obtain ⟨e5, d5⟩ := step_var d4 h3
  obtain ⟨e6, d6⟩ := step_var d5 h4
  obtain ⟨e7, g7, -⟩ := step_txt d6 h5
  have p1 : q1 (f.head ++ tail) = C.rNext 0 0 (f.head ++ tail) 0 0 := rfl
  rw [e1] at p1
  have p2 : q2 (f.head ++ tail) = C.rNext 0 0 (f.head ++ tail) (q1 (f.head ++ tail)).2.1 (q1 (f.head ++ tail)).2.2 := rfl
  rw [p1] at p2
  simp only at p2
  rw [e2] at p2
  have p3 : q3 (f.head ++ tail) = C.rNext 3 1099511627776 (f.head ++ tail) (q2 (f.head ++ tail)).2.1 (q2 (f.head ++ tail)).2.2 := rfl
  rw [p2] at p3
  simp only at p3
  rw [e3] at p3
  have p4 : q4 (f.head ++ tail) = C.rNext 3 1099511627776 (f.head ++ tail) (q3 (f.head ++ tail)).2.1 (q3 (f.head ++ tail)).2.2 := rfl
  rw [p3] at p4
  simp only at p4
  rw [e4] at p4
  have p5 : q5 (f.head ++ tail) = C.rNext 3 1099511627776 (f.head ++ tail) (q4 (f.head ++ tail)).2.1 (q4 (f.head ++ tail)).2.2 := rfl
  rw [p4] at p5
  simp only at p5
  rw [e5] at p5
  have p6 : q6 (f.head ++ tail) = C.rNext 3 1099511627776 (f.head ++ tail) (q5 (f.head ++ tail)).2.1 (q5 (f.head ++ tail)).2.2 := rfl
  rw [p5] at p6
  simp only at p6
  rw [e6] at p6
  have p7 : q7 (f.head ++ tail) = C.rText 2048 (f.head ++ tail) (q6 (f.head ++ tail)).2.1 (q6 (f.head ++ tail)).2.2 := rfl
  rw [p6] at p7
  simp only at p7
  rw [e7] at p7
  have hf : frOf (f.head ++ tail) = f := by
    unfold frOf
    rw [p1, p2, p3, p4, p5, p6, p7]
    rw [e7] at g7
    exact Fr.ext' (by simp only; omega) (by simp only; omega) rfl rfl rfl rfl g7
  exact hf
/-- No frame's bytes are the beginning of another's. -/
theorem no_prefix {f g : Fr} (hf : f.fit) (hg : g.fit) {r : List Nat} (h : g.bytes ++ r = f.bytes) : r = [] := by
  have e1 := read_head hf (C.beOf (C.sumOf f.head) 4)
  have e2 := read_head hg (C.beOf (C.sumOf g.head) 4 ++ r)
  have e3 : g.head ++ (C.beOf (C.sumOf g.head) 4 ++ r) = f.head ++ C.beOf (C.sumOf f.head) 4 := by rw [← List.append_assoc]; exact h
  rw [e3, e1] at e2
  subst e2
  have := congrArg List.length h
  simp at this
  exact this
theorem dec_flip {f : Fr} (h : f.fit) (hs : f.small) {i : Nat} (hi : i < 8 * f.bytes.length) : decB (C.flip f.bytes i) = none := by
  have hb := Fr.bytes_small h hs
  refine dec_none (C.flip_small _ _ hb) (fun g hg hgs e => ?_)
  have hl : g.head.length = f.head.length := by
    have := congrArg List.length e
    rw [C.flip_len, Fr.bytes_len, Fr.bytes_len] at this
    omega
  refine flip_frame (Fr.head_small h hs) (Fr.head_small hg hgs) hl (i := i) (by rw [Fr.bytes_len] at hi; exact hi) ?_
  exact e.symm
theorem dec_cut {f : Fr} (h : f.fit) (hs : f.small) {k : Nat} (hk : k < f.bytes.length) : decB (f.bytes.take k) = none := by
  have hb := Fr.bytes_small h hs
  refine dec_none (fun x hx => hb x (List.mem_of_mem_take hx)) (fun g hg hgs e => ?_)
  have := no_prefix h hg (r := f.bytes.drop k) (by rw [e]; exact List.take_append_drop _ _)
  have h2 := congrArg List.length this
  simp at h2
  omega
theorem dec_more {f : Fr} (h : f.fit) (hs : f.small) {x : Nat} (hx : x < 256) : decB (f.bytes ++ [x]) = none := by
  have hb := Fr.bytes_small h hs
  refine dec_none (fun y hy => ?_) (fun g hg hgs e => ?_)
  · rcases List.mem_append.1 hy with h1 | h1
    · exact hb y h1
    · simp at h1; omega
  · have := no_prefix hg h e.symm
    cases this

/-! What came in -/
structure Fe where
  f : Fr
  p : Option Addr
  c : Nat
/-- A frame that came in may be read. -/
structure FeOk (w : World) (e : Fe) : Prop where
  by_ : Bytes w e.p e.f.body
  len : e.f.body.length ≤ 140737488351232
def feC (e : Fe) : List Value := [.int .i64 e.f.fr, .int .i64 e.f.tt, .int .u64 (e.f.mine : Int), .int .u64 (e.f.yours : Int), .int .u64 (e.f.seq : Int), .int .u64 (e.f.ack : Int), .slice e.p e.f.body.length e.c]
def Frs (w : World) (sp : Option Addr) (es : List Fe) : Prop := ∀ i e, es[i]? = some e → ∃ g o, sp = some ⟨g, o, none⟩ ∧ g < w.heap.size ∧ (∀ (j : Nat) (v : Value), (feC e)[j]? = some v → w.cell? ⟨g, o + i * 7 + j, none⟩ = some v) ∧ FeOk w e
theorem Frs.below {w w' : World} {sp : Option Addr} {es : List Fe} (h : Frs w sp es) (hb : Below w.heap.size w w') : Frs w' sp es := fun i e he => by
  obtain ⟨g, o, h1, h2, h3, h4⟩ := h i e he
  exact ⟨g, o, h1, Nat.lt_of_lt_of_le h2 hb.size, fun j v hv => (hb.cell (p := ⟨g, o + i * 7 + j, none⟩) h2).trans (h3 j v hv), ⟨h4.by_.below hb, h4.len⟩⟩
structure Pts (w : World) (pp : Option Addr) (ps : List (List Nat)) : Prop where
  small : ∀ p ∈ ps, p.length ≤ 140737488351232
  lie : ps = [] ∨ ∃ g o, pp = some ⟨g, o, none⟩ ∧ g < w.heap.size ∧ ∀ j p, ps[j]? = some p → ∃ ap cp, w.cell? ⟨g, o + j, none⟩ = some (.slice ap p.length cp) ∧ Bytes w ap p
theorem Pts.below {w w' : World} {pp : Option Addr} {ps : List (List Nat)} (h : Pts w pp ps) (hb : Below w.heap.size w w') : Pts w' pp ps := by
  refine ⟨h.small, h.lie.imp id ?_⟩
  rintro ⟨g, o, e, hg, hc⟩
  refine ⟨g, o, e, Nat.lt_of_lt_of_le hg hb.size, fun j p hp => ?_⟩
  obtain ⟨ap, cp, c0, c1⟩ := hc j p hp
  exact ⟨ap, cp, (hb.cell (p := ⟨g, o + j, none⟩) hg).trans c0, c1.below hb⟩
theorem Pts.at {w : World} {pp : Option Addr} {ps : List (List Nat)} (h : Pts w pp ps) {j : Nat} {p : List Nat} (hp : ps[j]? = some p) : ∃ g o ap cp, pp = some ⟨g, o, none⟩ ∧ g < w.heap.size ∧ w.cell? ⟨g, o + j, none⟩ = some (.slice ap p.length cp) ∧ Bytes w ap p := by
  rcases h.lie with h0 | ⟨g, o, e, hg, hc⟩
  · subst h0; simp at hp
  · obtain ⟨ap, cp, c0, c1⟩ := hc j p hp
    exact ⟨g, o, ap, cp, e, hg, c0, c1⟩
theorem owns_bytes {w : World} {B : Nat} {a : Option Addr} {n c : Nat} {xs : List Nat} (h : w.ownsRow B 5 1 (.slice a n c) n (vals xs)) (hs : ∀ x ∈ xs, x < 256) : Bytes w a xs := by
  refine ⟨hs, ?_⟩
  have hl := h.1
  rw [vals_len, Nat.mul_one] at hl
  rcases h.2 with ⟨h1, h2⟩ | ⟨g, cap, cur, h1, h2, h3, h4, h5, h6, h7⟩
  · left; exact List.eq_nil_of_length_eq_zero (by omega)
  · cases h1
    refine Or.inr ⟨g, 0, rfl, C.lt_of_block h3, fun j hj => ?_⟩
    have e : cur.toList[j]? = some (.int .u8 ((xs.getD j 0 : Nat) : Int)) := by
      have := congrArg (fun l : List Value => l[j]?) h7
      simp only [List.getElem?_take] at this
      rw [if_pos (by omega)] at this
      rw [this]
      simp [vals, List.getD, List.getElem?_eq_getElem hj]
    simp only [World.cell?, h3, Nat.zero_add]
    simpa using e
end Go.Proofs.YtephfdnneplcnaaDoor
