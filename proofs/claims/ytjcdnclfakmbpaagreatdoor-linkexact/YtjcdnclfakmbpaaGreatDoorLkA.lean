import Derived.Test.YtjcdnclfakmbpaaGreatDoorCMir
import Derived.Test.YtjcdnclfakmbpaaGreatDoorCReader4
import Derived.Test.YtjcdnclfakmbpaaGreatDoorCTurn
import Derived.Test.YtjcdnclfakmbpaaGreatDoorCEyeP
import Derived.Test.YtjcdnclfakmbpaaGreatDoorKin
namespace Go.Proofs.YtjcdnclfakmbpaaGreatDoor
open Go.RowKit
theorem Bytes.c {w : World} {sp : Option Addr} {xs : List Nat} (h : Bytes w sp xs) : C.Bytes w sp xs := ⟨h.small, h.lie⟩
theorem Bytes.of_c {w : World} {sp : Option Addr} {xs : List Nat} (h : C.Bytes w sp xs) : Bytes w sp xs := ⟨h.small, h.lie⟩
theorem be_small (n s : Nat) : ∀ x ∈ C.beOf n s, x < 256 := fun x hx => by
  simp only [C.beOf, List.mem_map] at hx
  obtain ⟨i, _, rfl⟩ := hx
  exact Nat.mod_lt _ (by omega)
theorem be_len (n s : Nat) : (C.beOf n s).length = s := by simp [C.beOf]
theorem sum_lt (xs : List Nat) (h : ∀ x ∈ xs, x < 256) : C.sumOf xs < 4294967296 := C.xor_lt (by omega) (C.reg_lt xs h)
theorem drop_app {α : Type} (a b : List α) (n : Nat) (h : a.length = n) : (a ++ b).drop n = b := by subst h; simp
theorem take_cut (l : List Nat) (a b c : Nat) (h1 : a ≤ b) (h2 : b ≤ c) : (l.drop a).take (b - a) ++ (l.drop b).take (c - b) = (l.drop a).take (c - a) := by
  have e : c - a = (b - a) + (c - b) := by omega
  rw [e, List.take_add, List.drop_drop, show a + (b - a) = b by omega]
structure Fr where
  fr : Int
  tt : Int
  mine : Nat
  yours : Nat
  seq : Nat
  ack : Nat
  body : List Nat
theorem Fr.ext' {f g : Fr} (h1 : f.fr = g.fr) (h2 : f.tt = g.tt) (h3 : f.mine = g.mine) (h4 : f.yours = g.yours) (h5 : f.seq = g.seq) (h6 : f.ack = g.ack) (h7 : f.body = g.body) : f = g := by
  cases f; cases g; simp_all
def fr0 : Fr := ⟨0, 0, 0, 0, 0, 0, []⟩
def Fr.fit (f : Fr) : Prop := (0 ≤ f.fr ∧ f.fr ≤ 8) ∧ (0 ≤ f.tt ∧ f.tt ≤ 8) ∧ (1 ≤ f.mine ∧ f.mine ≤ 1099511627776) ∧ f.yours ≤ 1099511627776 ∧ f.seq ≤ 1099511627776 ∧ f.ack ≤ 1099511627776 ∧ f.body.length ≤ 2048 ∧ (f.seq = 0 → f.body.length = 0)
instance (f : Fr) : Decidable f.fit := by unfold Fr.fit; infer_instance
def vB (n : Nat) : List Nat := C.varOf n (C.vs n - 1)
def tB (b : List Nat) : List Nat := vB b.length ++ b
def Fr.head (f : Fr) : List Nat := C.beOf f.fr.toNat 1 ++ (C.beOf f.tt.toNat 1 ++ (vB f.mine ++ (vB f.yours ++ (vB f.seq ++ (vB f.ack ++ tB f.body)))))
def Fr.bytes (f : Fr) : List Nat := f.head ++ C.beOf (C.sumOf f.head) 4
def encB (f : Fr) : List Nat := if f.fit then f.bytes else []
def Fr.small (f : Fr) : Prop := ∀ x ∈ f.body, x < 256
theorem vB_len {n : Nat} (h : n < 18446744073709551616) : (vB n).length = C.vs n := by
  have := C.vs_bounds n h
  unfold vB; rw [C.varOf_length]; omega
theorem vB_small {n : Nat} (h : n < 18446744073709551616) : ∀ x ∈ vB n, x < 256 := by
  have h1 := C.vs_bounds n h
  have h2 := C.vs_fits n h
  exact C.varOf_small _ _ (by rw [show C.vs n - 1 + 1 = C.vs n by omega]; exact h2)
theorem vs_six {n : Nat} (h : n ≤ 1099511627776) : C.vs n ≤ 6 := by
  rcases Nat.lt_or_ge 6 (C.vs n) with h1 | h1
  · have h2 := C.vs_least n (by omega) (by omega)
    have h3 := Nat.pow_le_pow_right (n := 128) (by omega) (show 6 ≤ C.vs n - 1 by omega)
    rw [show (128 : Nat) ^ 6 = 4398046511104 from rfl] at h3
    omega
  · exact h1
theorem tB_len {b : List Nat} (h : b.length < 18446744073709551616) : (tB b).length = C.vs b.length + b.length := by unfold tB; rw [List.length_append, vB_len h]
theorem tB_small {b : List Nat} (h : b.length < 18446744073709551616) (hs : ∀ x ∈ b, x < 256) : ∀ x ∈ tB b, x < 256 := fun x hx => by
  rcases List.mem_append.1 hx with e | e
  · exact vB_small h x e
  · exact hs x e
theorem Fr.head_small {f : Fr} (h : f.fit) (hs : f.small) : ∀ x ∈ f.head, x < 256 := fun x hx => by
  obtain ⟨_, _, h1, h2, h3, h4, h5, _⟩ := h
  unfold Fr.head at hx
  rcases List.mem_append.1 hx with e | hx
  · exact be_small _ _ x e
  rcases List.mem_append.1 hx with e | hx
  · exact be_small _ _ x e
  rcases List.mem_append.1 hx with e | hx
  · exact vB_small (by omega) x e
  rcases List.mem_append.1 hx with e | hx
  · exact vB_small (by omega) x e
  rcases List.mem_append.1 hx with e | hx
  · exact vB_small (by omega) x e
  rcases List.mem_append.1 hx with e | hx
  · exact vB_small (by omega) x e
  exact tB_small (by omega) hs x hx
theorem Fr.head_len {f : Fr} (h : f.fit) : 7 ≤ f.head.length ∧ f.head.length ≤ 2084 := by
  obtain ⟨_, _, h1, h2, h3, h4, h5, _⟩ := h
  unfold Fr.head
  simp only [List.length_append, be_len, vB_len (show f.mine < 18446744073709551616 by omega), vB_len (show f.yours < 18446744073709551616 by omega), vB_len (show f.seq < 18446744073709551616 by omega), vB_len (show f.ack < 18446744073709551616 by omega), tB_len (show f.body.length < 18446744073709551616 by omega)]
  have a1 := vs_six h1.2
  have a2 := vs_six h2
  have a3 := vs_six h3
  have a4 := vs_six h4
  have b1 := C.vs_bounds f.mine (by omega)
  have b2 := C.vs_bounds f.yours (by omega)
  have b3 := C.vs_bounds f.seq (by omega)
  have b4 := C.vs_bounds f.ack (by omega)
  have b5 := C.vs_bounds f.body.length (by omega)
  omega
theorem Fr.bytes_small {f : Fr} (h : f.fit) (hs : f.small) : ∀ x ∈ f.bytes, x < 256 := fun x hx => by
  rcases List.mem_append.1 hx with e | e
  · exact Fr.head_small h hs x e
  · exact be_small _ _ x e
theorem Fr.bytes_len (f : Fr) : f.bytes.length = f.head.length + 4 := by unfold Fr.bytes; rw [List.length_append, be_len]
theorem encB_len (f : Fr) : (encB f).length ≤ 2088 := by
  unfold encB
  split
  · rename_i h; rw [Fr.bytes_len]; have := Fr.head_len h; omega
  · simp
theorem encB_small {f : Fr} (hs : f.small) : ∀ x ∈ encB f, x < 256 := fun x hx => by
  unfold encB at hx
  split at hx
  · rename_i h; exact Fr.bytes_small h hs x hx
  · simp at hx
def q1 (xs : List Nat) : C.It × Nat × Nat := C.rNext 0 0 xs 0 0
def q2 (xs : List Nat) : C.It × Nat × Nat := C.rNext 0 0 xs (q1 xs).2.1 (q1 xs).2.2
def q3 (xs : List Nat) : C.It × Nat × Nat := C.rNext 3 1099511627776 xs (q2 xs).2.1 (q2 xs).2.2
def q4 (xs : List Nat) : C.It × Nat × Nat := C.rNext 3 1099511627776 xs (q3 xs).2.1 (q3 xs).2.2
def q5 (xs : List Nat) : C.It × Nat × Nat := C.rNext 3 1099511627776 xs (q4 xs).2.1 (q4 xs).2.2
def q6 (xs : List Nat) : C.It × Nat × Nat := C.rNext 3 1099511627776 xs (q5 xs).2.1 (q5 xs).2.2
def q7 (xs : List Nat) : C.It × Nat × Nat := C.rText 2048 xs (q6 xs).2.1 (q6 xs).2.2
def q8 (xs : List Nat) : C.It × Nat × Nat := C.rNext 1 0 xs (q7 xs).2.1 (q7 xs).2.2
def frOf (xs : List Nat) : Fr := ⟨(q1 xs).1.num, (q2 xs).1.num, (q3 xs).1.num, (q4 xs).1.num, (q5 xs).1.num, (q6 xs).1.num, C.got xs (q6 xs).2.1 (q7 xs)⟩
def okB (xs : List Nat) : Prop := (q8 xs).1.num = C.sumOf (xs.take (q7 xs).2.1) ∧ C.pEnd xs.length (q8 xs).2.1 (q8 xs).2.2 = 0 ∧ (frOf xs).fit
instance (xs : List Nat) : Decidable (okB xs) := by unfold okB; infer_instance
def decB (xs : List Nat) : Option Fr := if xs.length ≤ 2112 ∧ okB xs then some (frOf xs) else none
theorem step_fix {xs r : List Nat} {a n : Nat} (h : xs.drop a = C.beOf n 1 ++ r) (hn : n < 256) : C.rNext 0 0 xs a 0 = (⟨n, 0, 0, 1, 0⟩, a + 1, 0) ∧ xs.drop (a + 1) = r :=
  ⟨C.rn_of 0 0 xs a _ (C.fx_ok 0 1 n _ r rfl (by decide) (by decide) (by decide) h (by simpa using hn)) rfl, by rw [← List.drop_drop, h, drop_app _ _ _ (be_len _ _)]⟩
theorem step_four {xs r : List Nat} {a n : Nat} (h : xs.drop a = C.beOf n 4 ++ r) (hn : n < 4294967296) : C.rNext 1 0 xs a 0 = (⟨n, 0, 0, 4, 0⟩, a + 4, 0) :=
  C.rn_of 1 0 xs a _ (C.fx_ok 1 4 n _ r rfl (by decide) (by decide) (by decide) h (by simpa using hn)) rfl
theorem step_var {xs r : List Nat} {a n : Nat} (h : xs.drop a = vB n ++ r) (hn : n ≤ 1099511627776) : C.rNext 3 1099511627776 xs a 0 = (⟨n, 0, 0, C.vs n, 0⟩, a + C.vs n, 0) ∧ xs.drop (a + C.vs n) = r :=
  ⟨C.rn_of 3 _ xs a _ (by rw [h]; exact C.var_ok n _ r (by omega) hn) rfl, by rw [← List.drop_drop, h, drop_app _ _ _ (vB_len (by omega))]⟩
theorem step_txt {xs r b : List Nat} {a : Nat} (h : xs.drop a = tB b ++ r) (hb : b.length ≤ 2048) :
    C.rText 2048 xs a 0 = (⟨0, C.vs b.length, b.length, C.vs b.length + b.length, 0⟩, a + (C.vs b.length + b.length), 0) ∧ C.got xs a (C.rText 2048 xs a 0) = b ∧ xs.drop (a + (C.vs b.length + b.length)) = r := by
  have e : C.rText 2048 xs a 0 = (⟨0, C.vs b.length, b.length, C.vs b.length + b.length, 0⟩, a + (C.vs b.length + b.length), 0) :=
    C.rn_of 4 2048 xs a _ (C.by_most 2048 _ b r (by omega) hb h) rfl
  refine ⟨e, ?_, by rw [← List.drop_drop, h, drop_app _ _ _ (tB_len (by omega))]⟩
  rw [e]
  unfold C.got
  show ((xs.drop a).drop (C.vs b.length)).take b.length = b
  rw [h]
  unfold tB
  rw [List.append_assoc, drop_app _ _ _ (vB_len (by omega))]
  simp
theorem read_bytes {f : Fr} (h : f.fit) (hs : f.small) : frOf f.bytes = f ∧ okB f.bytes := by
  have hh := Fr.head_small h hs
  have hfit := h
  obtain ⟨h0, ht, h1, h2, h3, h4, h5, h6⟩ := h
  have d0 : f.bytes.drop 0 = C.beOf f.fr.toNat 1 ++ (C.beOf f.tt.toNat 1 ++ (vB f.mine ++ (vB f.yours ++ (vB f.seq ++ (vB f.ack ++ (tB f.body ++ C.beOf (C.sumOf f.head) 4)))))) := by
    rw [List.drop_zero]; unfold Fr.bytes
    generalize C.beOf (C.sumOf f.head) 4 = z
    unfold Fr.head; simp only [List.append_assoc]
  obtain ⟨e1, d1⟩ := step_fix d0 (by omega)
  obtain ⟨e2, d2⟩ := step_fix d1 (by omega)
  obtain ⟨e3, d3⟩ := step_var d2 h1.2
  obtain ⟨e4, d4⟩ := step_var d3 h2
  obtain ⟨e5, d5⟩ := step_var d4 h3
  obtain ⟨e6, d6⟩ := step_var d5 h4
  obtain ⟨e7, g7, d7⟩ := step_txt d6 h5
  have d7' : f.bytes.drop (0 + 1 + 1 + C.vs f.mine + C.vs f.yours + C.vs f.seq + C.vs f.ack + (C.vs f.body.length + f.body.length)) = C.beOf (C.sumOf f.head) 4 ++ [] := by rw [d7, List.append_nil]
  have e8 := step_four d7' (sum_lt _ hh)
  have p1 : q1 f.bytes = C.rNext 0 0 f.bytes 0 0 := rfl
  rw [e1] at p1
  have p2 : q2 f.bytes = C.rNext 0 0 f.bytes (q1 f.bytes).2.1 (q1 f.bytes).2.2 := rfl
  rw [p1] at p2
  simp only at p2
  rw [e2] at p2
  have p3 : q3 f.bytes = C.rNext 3 1099511627776 f.bytes (q2 f.bytes).2.1 (q2 f.bytes).2.2 := rfl
  rw [p2] at p3
  simp only at p3
  rw [e3] at p3
  have p4 : q4 f.bytes = C.rNext 3 1099511627776 f.bytes (q3 f.bytes).2.1 (q3 f.bytes).2.2 := rfl
  rw [p3] at p4
  simp only at p4
  rw [e4] at p4
  have p5 : q5 f.bytes = C.rNext 3 1099511627776 f.bytes (q4 f.bytes).2.1 (q4 f.bytes).2.2 := rfl
  rw [p4] at p5
  simp only at p5
  rw [e5] at p5
  have p6 : q6 f.bytes = C.rNext 3 1099511627776 f.bytes (q5 f.bytes).2.1 (q5 f.bytes).2.2 := rfl
  rw [p5] at p6
  simp only at p6
  rw [e6] at p6
  have p7 : q7 f.bytes = C.rText 2048 f.bytes (q6 f.bytes).2.1 (q6 f.bytes).2.2 := rfl
  rw [p6] at p7
  simp only at p7
  rw [e7] at p7
  have p8 : q8 f.bytes = C.rNext 1 0 f.bytes (q7 f.bytes).2.1 (q7 f.bytes).2.2 := rfl
  rw [p7] at p8
  simp only at p8
  rw [e8] at p8
  have hf : frOf f.bytes = f := by
    unfold frOf
    rw [p1, p2, p3, p4, p5, p6, p7]
    rw [e7] at g7
    exact Fr.ext' (by simp only; omega) (by simp only; omega) rfl rfl rfl rfl g7
  refine ⟨hf, ?_, ?_, by rw [hf]; exact hfit⟩
  · rw [p8, p7]
    show C.sumOf f.head = _
    have hl : f.head.length = 0 + 1 + 1 + C.vs f.mine + C.vs f.yours + C.vs f.seq + C.vs f.ack + (C.vs f.body.length + f.body.length) := by
      unfold Fr.head
      simp only [List.length_append, be_len, vB_len (show f.mine < 18446744073709551616 by omega), vB_len (show f.yours < 18446744073709551616 by omega), vB_len (show f.seq < 18446744073709551616 by omega), vB_len (show f.ack < 18446744073709551616 by omega), tB_len (show f.body.length < 18446744073709551616 by omega)]
      omega
    simp only
    rw [← hl]
    unfold Fr.bytes
    rw [List.take_left']
    rfl
  · rw [p8]
    have hl : f.bytes.length = 0 + 1 + 1 + C.vs f.mine + C.vs f.yours + C.vs f.seq + C.vs f.ack + (C.vs f.body.length + f.body.length) + 4 := by
      rw [Fr.bytes_len]
      unfold Fr.head
      simp only [List.length_append, be_len, vB_len (show f.mine < 18446744073709551616 by omega), vB_len (show f.yours < 18446744073709551616 by omega), vB_len (show f.seq < 18446744073709551616 by omega), vB_len (show f.ack < 18446744073709551616 by omega), tB_len (show f.body.length < 18446744073709551616 by omega)]
      omega
    simp only
    rw [hl]
    simp [C.pEnd]
theorem rn_stays (k : Int) (b : Nat) (xs : List Nat) (a f : Nat) (h : (C.rNext k b xs a f).2.2 = 0) : f = 0 := by
  by_cases q : f = 0
  · exact q
  · rw [C.rNext, if_pos q] at h; exact absurd h q
theorem six_cuts (xs : List Nat) (a1 a2 a3 a4 a5 a6 a7 : Nat) (l2 : a1 ≤ a2) (l3 : a2 ≤ a3) (l4 : a3 ≤ a4) (l5 : a4 ≤ a5) (l6 : a5 ≤ a6) (l7 : a6 ≤ a7) :
    (xs.drop 0).take (a1 - 0) ++ ((xs.drop a1).take (a2 - a1) ++ ((xs.drop a2).take (a3 - a2) ++ ((xs.drop a3).take (a4 - a3) ++ ((xs.drop a4).take (a5 - a4) ++ ((xs.drop a5).take (a6 - a5) ++ (xs.drop a6).take (a7 - a6)))))) = xs.take a7 := by
  rw [take_cut xs _ _ _ l6 l7, take_cut xs _ _ _ l5 (by omega), take_cut xs _ _ _ l4 (by omega), take_cut xs _ _ _ l3 (by omega), take_cut xs _ _ _ l2 (by omega), take_cut xs _ _ _ (Nat.zero_le _) (by omega)]
  simp
theorem end_zero {n a f : Nat} (h : C.pEnd n a f = 0) : f = 0 ∧ n ≤ a := by
  unfold C.pEnd at h
  by_cases q : f = 0
  · rw [if_neg (by omega)] at h
    by_cases r : a < n
    · rw [if_pos r] at h; omega
    · exact ⟨q, by omega⟩
  · rw [if_pos q] at h; exact absurd h q
theorem an_fix {k : Int} {s : Nat} {xs : List Nat} {a : Nat} {q : C.It × Nat × Nat} (hq : q = C.rNext k 0 xs a 0) (hf : q.2.2 = 0) (hs : ∀ x ∈ xs, x < 256) (ha : a ≤ xs.length) (hk : C.width k = s) (hs8 : s ≤ 8) (h3 : k ≠ 3) (h4 : k ≠ 4) (h5 : k ≠ 5) : a ≤ q.2.1 ∧ q.2.1 ≤ xs.length ∧ C.beOf q.1.num s = (xs.drop a).take (q.2.1 - a) := by
  subst hq
  exact (C.anew_fixed k s xs a hs ha hk hs8 h3 h4 h5).1 hf
theorem an_var {n : Nat} {xs : List Nat} {a : Nat} {q : C.It × Nat × Nat} (hq : q = C.rNext 3 n xs a 0) (hf : q.2.2 = 0) (hs : ∀ x ∈ xs, x < 256) (ha : a ≤ xs.length) (hn : n < 18446744073709551616) : a ≤ q.2.1 ∧ q.2.1 ≤ xs.length ∧ vB q.1.num = (xs.drop a).take (q.2.1 - a) := by
  subst hq
  exact (C.anew_var n xs a hs ha hn).1 hf
theorem an_txt {m : Int} {xs : List Nat} {a : Nat} {q : C.It × Nat × Nat} (hq : q = C.rText m xs a 0) (hf : q.2.2 = 0) (hs : ∀ x ∈ xs, x < 256) (ha : a ≤ xs.length) (hm : m ≤ 9223372036854775807) (hl : xs.length ≤ 140737488355328) : a ≤ q.2.1 ∧ q.2.1 ≤ xs.length ∧ tB (C.got xs a q) = (xs.drop a).take (q.2.1 - a) := by
  subst hq
  exact (C.anew_text m xs a hs ha hm hl).1 hf
theorem bytes_gen {xs : List Nat} (hs : ∀ x ∈ xs, x < 256) (hl : xs.length ≤ 140737488355328) (x1 x2 x3 x4 x5 x6 x7 x8 : C.It × Nat × Nat)
    (e1 : x1 = C.rNext 0 0 xs 0 0) (e2 : x2 = C.rNext 0 0 xs x1.2.1 x1.2.2) (e3 : x3 = C.rNext 3 1099511627776 xs x2.2.1 x2.2.2) (e4 : x4 = C.rNext 3 1099511627776 xs x3.2.1 x3.2.2) (e5 : x5 = C.rNext 3 1099511627776 xs x4.2.1 x4.2.2)
    (e6 : x6 = C.rNext 3 1099511627776 xs x5.2.1 x5.2.2) (e7 : x7 = C.rText 2048 xs x6.2.1 x6.2.2) (e8 : x8 = C.rNext 1 0 xs x7.2.1 x7.2.2)
    (hsum : x8.1.num = C.sumOf (xs.take x7.2.1)) (he : C.pEnd xs.length x8.2.1 x8.2.2 = 0) :
    (⟨x1.1.num, x2.1.num, x3.1.num, x4.1.num, x5.1.num, x6.1.num, C.got xs x6.2.1 x7⟩ : Fr).bytes = xs := by
  obtain ⟨f8, g8⟩ := end_zero he
  have f7 : x7.2.2 = 0 := rn_stays _ _ _ _ _ (by rw [← e8]; exact f8)
  have f6 : x6.2.2 = 0 := rn_stays 4 2048 xs x6.2.1 _ (by rw [← f7, e7]; rfl)
  have f5 : x5.2.2 = 0 := rn_stays _ _ _ _ _ (by rw [← e6]; exact f6)
  have f4 : x4.2.2 = 0 := rn_stays _ _ _ _ _ (by rw [← e5]; exact f5)
  have f3 : x3.2.2 = 0 := rn_stays _ _ _ _ _ (by rw [← e4]; exact f4)
  have f2 : x2.2.2 = 0 := rn_stays _ _ _ _ _ (by rw [← e3]; exact f3)
  have f1 : x1.2.2 = 0 := rn_stays _ _ _ _ _ (by rw [← e2]; exact f2)
  rw [f1] at e2
  rw [f2] at e3
  rw [f3] at e4
  rw [f4] at e5
  rw [f5] at e6
  rw [f6] at e7
  rw [f7] at e8
  obtain ⟨l1, m1, n1⟩ := an_fix (s := 1) e1 f1 hs (Nat.zero_le _) rfl (by omega) (by decide) (by decide) (by decide)
  obtain ⟨l2, m2, n2⟩ := an_fix (s := 1) e2 f2 hs m1 rfl (by omega) (by decide) (by decide) (by decide)
  obtain ⟨l3, m3, n3⟩ := an_var e3 f3 hs m2 (by omega)
  obtain ⟨l4, m4, n4⟩ := an_var e4 f4 hs m3 (by omega)
  obtain ⟨l5, m5, n5⟩ := an_var e5 f5 hs m4 (by omega)
  obtain ⟨l6, m6, n6⟩ := an_var e6 f6 hs m5 (by omega)
  obtain ⟨l7, m7, n7⟩ := an_txt e7 f7 hs m6 (by omega) hl
  obtain ⟨l8, m8, n8⟩ := an_fix (s := 4) e8 f8 hs m7 rfl (by omega) (by decide) (by decide) (by decide)
  have hhead : (⟨x1.1.num, x2.1.num, x3.1.num, x4.1.num, x5.1.num, x6.1.num, C.got xs x6.2.1 x7⟩ : Fr).head = xs.take x7.2.1 := by
    unfold Fr.head
    simp only [Int.toNat_natCast]
    rw [n1, n2, n3, n4, n5, n6, n7]
    exact six_cuts xs _ _ _ _ _ _ _ l2 l3 l4 l5 l6 l7
  unfold Fr.bytes
  rw [hhead, ← hsum, n8]
  have e := take_cut xs 0 x7.2.1 x8.2.1 (Nat.zero_le _) l8
  simp only [List.drop_zero, Nat.sub_zero] at e
  rw [e]
  exact List.take_of_length_le g8
theorem bytes_read {xs : List Nat} (hs : ∀ x ∈ xs, x < 256) (hl : xs.length ≤ 140737488355328) (h : okB xs) : (frOf xs).bytes = xs ∧ (frOf xs).small := by
  obtain ⟨hsum, he, _⟩ := h
  have e1 : q1 xs = C.rNext 0 0 xs 0 0 := by unfold q1; rfl
  have e2 : q2 xs = C.rNext 0 0 xs (q1 xs).2.1 (q1 xs).2.2 := by unfold q2; rfl
  have e3 : q3 xs = C.rNext 3 1099511627776 xs (q2 xs).2.1 (q2 xs).2.2 := by unfold q3; rfl
  have e4 : q4 xs = C.rNext 3 1099511627776 xs (q3 xs).2.1 (q3 xs).2.2 := by unfold q4; rfl
  have e5 : q5 xs = C.rNext 3 1099511627776 xs (q4 xs).2.1 (q4 xs).2.2 := by unfold q5; rfl
  have e6 : q6 xs = C.rNext 3 1099511627776 xs (q5 xs).2.1 (q5 xs).2.2 := by unfold q6; rfl
  have e7 : q7 xs = C.rText 2048 xs (q6 xs).2.1 (q6 xs).2.2 := by unfold q7; rfl
  have e8 : q8 xs = C.rNext 1 0 xs (q7 xs).2.1 (q7 xs).2.2 := by unfold q8; rfl
  have hb := bytes_gen hs hl (q1 xs) (q2 xs) (q3 xs) (q4 xs) (q5 xs) (q6 xs) (q7 xs) (q8 xs) e1 e2 e3 e4 e5 e6 e7 e8 hsum he
  have hg := C.got_small hs (q6 xs).2.1 (q7 xs)
  clear e1 e2 e3 e4 e5 e6 e7 e8 hsum he
  unfold Fr.small frOf
  generalize q7 xs = x7 at *
  generalize q6 xs = x6 at *
  exact ⟨hb, hg⟩
theorem dec_some {xs : List Nat} {f : Fr} (hs : ∀ x ∈ xs, x < 256) (h : decB xs = some f) : f.fit ∧ f.small ∧ f.bytes = xs := by
  unfold decB at h
  split at h
  · rename_i hk
    cases h
    obtain ⟨e1, e2⟩ := bytes_read hs (by omega) hk.2
    exact ⟨hk.2.2.2, e2, e1⟩
  · cases h
theorem dec_bytes {f : Fr} (h : f.fit) (hs : f.small) : decB f.bytes = some f := by
  obtain ⟨e1, e2⟩ := read_bytes h hs
  unfold decB
  rw [if_pos ⟨by rw [Fr.bytes_len]; have := Fr.head_len h; omega, e2⟩, e1]
end Go.Proofs.YtjcdnclfakmbpaaGreatDoor
