import Derived.BigQuiet
import Derived.Deep.QuietTactic
import Derived.Test.YtjcdnclfakmbpaaGreatDoorCReader2
import Derived.Test.YtjcdnclfakmbpaaGreatDoorCTurn
namespace Go.Proofs.YtjcdnclfakmbpaaGreatDoor.C
open Go.RowKit
theorem hide {p : Prop} (h : p) : Hid p := h
theorem unhide {p : Prop} (h : Hid p) : p := h
attribute [local go_sem ↓] Go.wp_at_zero Go.wp_at_succ
set_option maxRecDepth 100000 in
set_option maxHeartbeats 400000 in
theorem at_any (w : World) (b h : Nat) (xs : List Nat) (a f : Nat) (hr : Rd w b h xs a f) :
    Calls Tryz.prog 45 #[.pointer (some ⟨b, 0, none⟩)] w fun e w' => e = .returned (.int .i64 (a : Int)) ∧ w' = w := by
  obtain ⟨q0, q1, q2, qf⟩ := blk3 hr.blk
  clear hr
  go_enter Tryz.func45, Tryz.ntmps45
  go_wp2
  go_ret
  exact ⟨rfl, rfl⟩
set_option maxRecDepth 100000 in
set_option maxHeartbeats 400000 in
theorem left_any (w : World) (b h : Nat) (xs : List Nat) (a f : Nat) (hr : Rd w b h xs a f) :
    Calls Tryz.prog 94 #[.pointer (some ⟨b, 0, none⟩)] w fun e w' => e = .returned (.int .i64 ((xs.length - a : Nat) : Int)) ∧ w' = w.drew := by
  obtain ⟨q0, q1, q2, qf⟩ := blk3 hr.blk
  have h1 := hr.le
  have h2 := hr.len
  have he : Hid (((xs.length - a : Nat) : Int) = (xs.length : Int) - (a : Int)) := Int.ofNat_sub h1
  clear hr
  generalize xs.length = n at *
  go_enter Tryz.func94, Tryz.ntmps94
  go_wp2
  go_region
  go_wp2
  go_ret
  rw [he.out]
  exact ⟨rfl, rfl⟩
set_option maxRecDepth 100000 in
set_option maxHeartbeats 400000 in
theorem end_bad (w : World) (b h : Nat) (xs : List Nat) (a f : Nat) (hf : f ≠ 0) (hr : Rd w b h xs a f) :
    Calls Tryz.prog 47 #[.pointer (some ⟨b, 0, none⟩)] w fun e w' => e = .returned (.int .i64 (f : Int)) ∧ Below w.heap.size w w' := by
  obtain ⟨q0, q1, q2, qf⟩ := blk3 hr.blk
  have hb : ((f : Int) == 0) = false := by simp; omega
  clear hr
  go_enter Tryz.func47, Tryz.ntmps47
  go_wp2
  go_ret
  exact ⟨rfl, Below.refl _ _⟩
set_option maxRecDepth 100000 in
set_option maxHeartbeats 400000 in
theorem end_ok (w : World) (b h : Nat) (xs : List Nat) (a : Nat) (hr : Rd w b h xs a 0) :
    Calls Tryz.prog 47 #[.pointer (some ⟨b, 0, none⟩)] w fun e w' => e = .returned (.int .i64 (if a < xs.length then 13 else 0)) ∧ Below w.heap.size w w' := by
  obtain ⟨q0, q1, q2, qf⟩ := blk3 hr.blk
  have HR : Hid (Rd w b h xs a 0) := hr
  have h1 := hr.le
  have h2 := hr.len
  clear hr
  by_cases hlt : a < xs.length
  · rw [if_pos hlt]
    have h3 : (0 : Int) < ((xs.length - a : Nat) : Int) := by omega
    go_enter Tryz.func47, Tryz.ntmps47
    go_wp2_with fail
    refine (left_any _ b h xs a 0 HR.out).mono ?_
    rintro e w' ⟨rfl, rfl⟩
    go_wp2
    go_ret
    exact ⟨rfl, (Below.refl _ _).drew⟩
  · rw [if_neg hlt]
    have h3 : ¬ (0 : Int) < ((xs.length - a : Nat) : Int) := by omega
    go_enter Tryz.func47, Tryz.ntmps47
    go_wp2_with fail
    refine (left_any _ b h xs a 0 HR.out).mono ?_
    rintro e w' ⟨rfl, rfl⟩
    go_wp2
    go_ret
    exact ⟨rfl, (Below.refl _ _).drew⟩
def pEnd (n a f : Nat) : Nat := if f ≠ 0 then f else if a < n then 13 else 0
theorem end_any (w : World) (b h : Nat) (xs : List Nat) (a f : Nat) (hr : Rd w b h xs a f) :
    Calls Tryz.prog 47 #[.pointer (some ⟨b, 0, none⟩)] w fun e w' => e = .returned (.int .i64 (pEnd xs.length a f : Nat)) ∧ Below w.heap.size w w' := by
  by_cases hf : f ≠ 0
  · rw [pEnd, if_pos hf]; exact end_bad w b h xs a f hf hr
  · obtain rfl : f = 0 := by omega
    refine (end_ok w b h xs a hr).mono ?_
    rintro e w' ⟨rfl, hb⟩
    refine ⟨?_, hb⟩
    by_cases hlt : a < xs.length <;> simp [pEnd, hlt]
theorem new_reader (w : World) (xs : List Nat) (hs : ∀ x ∈ xs, x < 256) (hc : xs.length ≤ 140737488355328) :
    Rd ((w.alloc (.cells (vals xs).toArray 5)).alloc (.cells #[.slice (some ⟨w.heap.size, 0, none⟩) xs.length xs.length, .int .i64 0, .int .i64 0] 139)) (w.heap.size + 1) w.heap.size xs 0 0 := by
  refine ⟨heap_alloc_two w _ _, ⟨hs, Or.inr ⟨w.heap.size, 0, rfl, by simp; omega, fun j hj => ?_⟩⟩, hc, Nat.zero_le _⟩
  have h1 : ((w.alloc (.cells (vals xs).toArray 5)).alloc (.cells #[.slice (some ⟨w.heap.size, 0, none⟩) xs.length xs.length, .int .i64 0, .int .i64 0] 139)).heap[w.heap.size]? = some (.cells (vals xs).toArray 5 (0, 0)) := by
    rw [Below.heap_alloc _ _ _ (by simp)]; exact heap_alloc_new _ _
  simp only [World.cell?, h1]
  simp [vals, List.getD, List.getElem?_eq_getElem hj]
set_option maxRecDepth 100000 in
set_option maxHeartbeats 400000 in
theorem read_any (w : World) (sp : Option Addr) (len cap : Nat) (xs : List Nat) (hl : xs.length = len) (hc : len ≤ 140737488355328) (hB : Bytes w sp xs) :
    Calls Tryz.prog 40 #[.slice sp len cap] w fun e w' => e = .returned (.pointer (some ⟨w.heap.size + 1, 0, none⟩)) ∧ Rd w' (w.heap.size + 1) w.heap.size xs 0 0 ∧ Below w.heap.size w w' := by
  have HC : Hid (Calls Tryz.prog 92 #[.slice sp len cap] w fun e w' => e = .returned (.slice (some ⟨w.heap.size, 0, none⟩) len len) ∧ w' = w.alloc (.cells (vals xs).toArray 5)) := copied_bytes w sp len cap xs hl hc hB
  have HS : Hid (∀ x ∈ xs, x < 256) := hB.small
  have HL : Hid (xs.length = len) := hl
  clear hB hl
  go_enter Tryz.func40, Tryz.ntmps40
  go_wp2_with fail
  refine HC.out.mono ?_
  rintro e w' ⟨rfl, rfl⟩
  go_wp2
  go_ret
  refine ⟨rfl, ?_, ((Below.refl _ _).alloc (Nat.le_refl _) _).alloc (by simp) _⟩
  rw [← HL.out]
  exact new_reader w xs HS.out (by rw [HL.out]; exact hc)
theorem num_small1 (xs : List Nat) (h : ∀ x ∈ xs, x < 256) (k : Int) (bound a f : Nat) (hk : width k = 1 ∧ k ≠ 3 ∧ k ≠ 4 ∧ k ≠ 5) : (rNext k bound xs a f).1.num < 256 := by
  unfold rNext
  by_cases h0 : f ≠ 0
  · rw [if_pos h0]; simp [no]
  · rw [if_neg h0]
    by_cases h1 : (pFind k bound (xs.drop a)).fault ≠ 0
    · rw [if_pos h1]; simp [no]
    · rw [if_neg h1]
      simp only [pFind, if_neg hk.2.1, if_neg hk.2.2.1, if_neg hk.2.2.2, hk.1, pFixed]
      by_cases h2 : (xs.drop a).length < 1
      · rw [if_pos h2]; simp [no]
      · rw [if_neg h2]
        have := be_lt ((xs.drop a).take 1) (fun x hx => h x (List.mem_of_mem_drop (List.mem_of_mem_take hx)))
        have h3 : ((xs.drop a).take 1).length ≤ 1 := by simp; omega
        have h4 := Nat.pow_le_pow_right (n := 256) (by omega) h3
        simp only; omega
theorem num_small4 (xs : List Nat) (h : ∀ x ∈ xs, x < 256) (k : Int) (bound a f : Nat) (hk : width k = 4 ∧ k ≠ 3 ∧ k ≠ 4 ∧ k ≠ 5) : (rNext k bound xs a f).1.num < 4294967296 := by
  unfold rNext
  by_cases h0 : f ≠ 0
  · rw [if_pos h0]; simp [no]
  · rw [if_neg h0]
    by_cases h1 : (pFind k bound (xs.drop a)).fault ≠ 0
    · rw [if_pos h1]; simp [no]
    · rw [if_neg h1]
      simp only [pFind, if_neg hk.2.1, if_neg hk.2.2.1, if_neg hk.2.2.2, hk.1, pFixed]
      by_cases h2 : (xs.drop a).length < 4
      · rw [if_pos h2]; simp [no]
      · rw [if_neg h2]
        have := be_lt ((xs.drop a).take 4) (fun x hx => h x (List.mem_of_mem_drop (List.mem_of_mem_take hx)))
        have h3 : ((xs.drop a).take 4).length ≤ 4 := by simp; omega
        have h4 := Nat.pow_le_pow_right (n := 256) (by omega) h3
        simp only; omega
theorem field_num (x : Int) (a : Option Addr) (l c : Nat) (z : Int) (w : World) : Sem.run Tryz.prog (Instr.field 141 (.agg #[.int .u64 x, .slice a l c, .int .i64 z]) 0) w = .ok (.int .u64 x) w := by kernel_rfl
theorem field_bytes (x : Int) (a : Option Addr) (l c : Nat) (z : Int) (w : World) : Sem.run Tryz.prog (Instr.field 141 (.agg #[.int .u64 x, .slice a l c, .int .i64 z]) 1) w = .ok (.slice a l c) w := by kernel_rfl
def TookNum (kd : IntKind) (w w' : World) (b h : Nat) (xs : List Nat) (x : It × Nat × Nat) (e : Ending) : Prop :=
  e = .returned (.int kd (x.1.num : Int)) ∧ Rd w' b h xs x.2.1 x.2.2 ∧ But b w w'
set_option maxRecDepth 100000 in
set_option maxHeartbeats 400000 in
theorem var_read (w : World) (b h : Nat) (xs : List Nat) (a f : Nat) (most : Nat) (hm : most < 18446744073709551616) (hr : Rd w b h xs a f) :
    Calls Tryz.prog 42 #[.pointer (some ⟨b, 0, none⟩), .int .u64 (most : Int)] w fun e w' => TookNum .u64 w w' b h xs (rNext 3 most xs a f) e := by
  have HC := hide (next_any w b h xs a f 3 most hr (by omega))
  generalize rNext 3 most xs a f = x at *
  clear hr
  have hfl := field_num
  go_enter Tryz.func42, Tryz.ntmps42
  go_wp2_with fail
  refine (unhide HC).mono ?_
  rintro e w' ⟨bp, bc, rfl, -, -, -, hr', hb⟩
  have HR := hide hr'
  have HB := hide hb
  clear hr' hb
  go_wp2
  go_ret
  exact ⟨rfl, unhide HR, unhide HB⟩
set_option maxRecDepth 100000 in
set_option maxHeartbeats 400000 in
theorem u8_any (w : World) (b h : Nat) (xs : List Nat) (a f : Nat) (hr : Rd w b h xs a f) :
    Calls Tryz.prog 41 #[.pointer (some ⟨b, 0, none⟩)] w fun e w' => TookNum .u8 w w' b h xs (rNext 0 0 xs a f) e := by
  have HC := hide (next_any w b h xs a f 0 0 hr (by omega))
  have hs := num_small1 xs hr.held.small 0 0 a f (by simp [width])
  generalize rNext 0 0 xs a f = x at *
  clear hr
  have hfl := field_num
  go_enter Tryz.func41, Tryz.ntmps41
  go_wp2_with fail
  refine (unhide HC).mono ?_
  rintro e w' ⟨bp, bc, rfl, -, -, -, hr', hb⟩
  have HR := hide hr'
  have HB := hide hb
  clear hr' hb
  go_wp2
  go_ret
  exact ⟨rfl, unhide HR, unhide HB⟩
set_option maxRecDepth 100000 in
set_option maxHeartbeats 400000 in
theorem u32_any (w : World) (b h : Nat) (xs : List Nat) (a f : Nat) (hr : Rd w b h xs a f) :
    Calls Tryz.prog 46 #[.pointer (some ⟨b, 0, none⟩)] w fun e w' => TookNum .u32 w w' b h xs (rNext 1 0 xs a f) e := by
  have HC := hide (next_any w b h xs a f 1 0 hr (by omega))
  have hs := num_small4 xs hr.held.small 1 0 a f (by simp [width])
  generalize rNext 1 0 xs a f = x at *
  clear hr
  have hfl := field_num
  go_enter Tryz.func46, Tryz.ntmps46
  go_wp2_with fail
  refine (unhide HC).mono ?_
  rintro e w' ⟨bp, bc, rfl, -, -, -, hr', hb⟩
  have HR := hide hr'
  have HB := hide hb
  clear hr' hb
  go_wp2
  go_ret
  exact ⟨rfl, unhide HR, unhide HB⟩
end Go.Proofs.YtjcdnclfakmbpaaGreatDoor.C
namespace Go.Proofs.YtjcdnclfakmbpaaGreatDoor.C
open Go.RowKit
theorem ret_eq {v u : Value} (h : v = u) : Ending.returned v = .returned u := by rw [h]
def Mine (B : Nat) (w : World) (sp : Option Addr) (ys : List Nat) : Prop :=
  (sp = none ∧ ys = []) ∨ ∃ g, sp = some ⟨g, 0, none⟩ ∧ B ≤ g ∧ w.heap[g]? = some (.cells (vals ys).toArray 5 (0, 0))
theorem Mine.bytes {B : Nat} {w : World} {sp : Option Addr} {ys : List Nat} (h : Mine B w sp ys) (hs : ∀ x ∈ ys, x < 256) : Bytes w sp ys := by
  refine ⟨hs, ?_⟩
  rcases h with ⟨-, h0⟩ | ⟨g, e, _, hg⟩
  · exact Or.inl h0
  · refine Or.inr ⟨g, 0, e, lt_of_block hg, fun j hj => ?_⟩
    simp only [World.cell?, hg]
    simp [vals, List.getD, List.getElem?_eq_getElem hj]
def TookBytes (w w' : World) (b h : Nat) (xs : List Nat) (ys : List Nat) (a f : Nat) (e : Ending) : Prop :=
  ∃ sp, e = .returned (.slice sp ys.length ys.length) ∧ Mine w.heap.size w' sp ys ∧ (∀ x ∈ ys, x < 256) ∧ Rd w' b h xs a f ∧ But b w w'
theorem got_small {xs : List Nat} (h : ∀ x ∈ xs, x < 256) (a : Nat) (x : It × Nat × Nat) : ∀ y ∈ got xs a x, y < 256 :=
  fun y hy => h y (List.mem_of_mem_drop (List.mem_of_mem_drop (List.mem_of_mem_take hy)))
set_option maxRecDepth 100000 in
set_option maxHeartbeats 400000 in
theorem text_pos (w : World) (b h : Nat) (xs : List Nat) (a f : Nat) (m : Nat) (hm : m ≤ 9223372036854775807) (hm0 : (0 : Int) < (m : Int)) (hr : Rd w b h xs a f) :
    Calls Tryz.prog 43 #[.pointer (some ⟨b, 0, none⟩), .int .i64 m] w fun e w' => TookBytes w w' b h xs (got xs a (rNext 4 m xs a f)) (rNext 4 m xs a f).2.1 (rNext 4 m xs a f).2.2 e := by
  have HC := hide (next_any w b h xs a f 4 m hr (by omega))
  have HL : Hid ((got xs a (rNext 4 m xs a f)).length = (rNext 4 m xs a f).1.len) := rn_len 4 m xs a f
  have HS := hide (got_small hr.held.small a (rNext 4 m xs a f))
  generalize rNext 4 m xs a f = x at *
  clear hr
  have hfl := field_bytes
  go_enter Tryz.func43, Tryz.ntmps43
  go_wp2_with fail
  refine (unhide HC).mono ?_
  rintro e w1 ⟨bp, bc, rfl, hby, h1, h2, hr', hb⟩
  have HR := hide hr'
  have HB := hide hb
  have HY : Hid (Bytes w1 bp (got xs a x)) := hby
  clear hr' hb hby
  go_wp2_with fail
  refine (copied_bytes _ bp x.1.len bc (got xs a x) (unhide HL) (by omega) (unhide HY)).mono ?_
  rintro e w2 ⟨rfl, rfl⟩
  go_wp2
  go_ret
  refine ⟨some ⟨w1.heap.size, 0, none⟩, ret_eq (by rw [HL.out]; rfl), Or.inr ⟨w1.heap.size, rfl, HB.out.size, heap_alloc_new _ _⟩, HS.out, HR.out.below ((Below.refl _ _).alloc (Nat.le_refl _) _), HB.out.alloc _⟩
set_option maxRecDepth 100000 in
set_option maxHeartbeats 400000 in
theorem text_neg (w : World) (b h : Nat) (xs : List Nat) (a f : Nat) (m : Int) (hm : m ≤ 0) (hr : Rd w b h xs a f) :
    Calls Tryz.prog 43 #[.pointer (some ⟨b, 0, none⟩), .int .i64 m] w fun e w' => TookBytes w w' b h xs (got xs a (rNext 4 0 xs a f)) (rNext 4 0 xs a f).2.1 (rNext 4 0 xs a f).2.2 e := by
  have HC := hide (next_any w b h xs a f 4 0 hr (by omega))
  have HL : Hid ((got xs a (rNext 4 0 xs a f)).length = (rNext 4 0 xs a f).1.len) := rn_len 4 0 xs a f
  have HS := hide (got_small hr.held.small a (rNext 4 0 xs a f))
  generalize rNext 4 0 xs a f = x at *
  clear hr
  have hfl := field_bytes
  go_enter Tryz.func43, Tryz.ntmps43
  go_wp2_with fail
  refine (unhide HC).mono ?_
  rintro e w1 ⟨bp, bc, rfl, hby, h1, h2, hr', hb⟩
  have HR := hide hr'
  have HB := hide hb
  have HY : Hid (Bytes w1 bp (got xs a x)) := hby
  clear hr' hb hby
  go_wp2_with fail
  refine (copied_bytes _ bp x.1.len bc (got xs a x) (unhide HL) (by omega) (unhide HY)).mono ?_
  rintro e w2 ⟨rfl, rfl⟩
  go_wp2
  go_ret
  refine ⟨some ⟨w1.heap.size, 0, none⟩, ret_eq (by rw [HL.out]; rfl), Or.inr ⟨w1.heap.size, rfl, HB.out.size, heap_alloc_new _ _⟩, HS.out, HR.out.below ((Below.refl _ _).alloc (Nat.le_refl _) _), HB.out.alloc _⟩
theorem text_any (w : World) (b h : Nat) (xs : List Nat) (a f : Nat) (m : Int) (hm : m ≤ 9223372036854775807) (hr : Rd w b h xs a f) :
    Calls Tryz.prog 43 #[.pointer (some ⟨b, 0, none⟩), .int .i64 m] w fun e w' => TookBytes w w' b h xs (got xs a (rText m xs a f)) (rText m xs a f).2.1 (rText m xs a f).2.2 e := by
  by_cases h0 : m ≤ 0
  · have e : rText m xs a f = rNext 4 0 xs a f := by unfold rText; rw [show (max 0 m).toNat = 0 by omega]
    rw [e]; exact text_neg w b h xs a f m h0 hr
  · obtain ⟨n, rfl⟩ := Int.eq_ofNat_of_zero_le (show 0 ≤ m by omega)
    have e : rText (n : Int) xs a f = rNext 4 n xs a f := by unfold rText; rw [show (max 0 (n : Int)).toNat = n by omega]
    rw [e]; exact text_pos w b h xs a f n (by omega) (by omega) hr
end Go.Proofs.YtjcdnclfakmbpaaGreatDoor.C
namespace Go.Proofs.YtjcdnclfakmbpaaGreatDoor.C
open Go.RowKit
theorem beOf_be (ys : List Nat) (h : ∀ x ∈ ys, x < 256) : beOf (be ys) ys.length = ys := by
  rw [← List.reverse_reverse ys] at h ⊢
  generalize ys.reverse = zs at *
  induction zs with
  | nil => rfl
  | cons z zs ih =>
    have h1 : ∀ x ∈ zs.reverse, x < 256 := fun x hx => h x (by rw [List.reverse_cons]; exact List.mem_append_left _ hx)
    have h2 := h z (by simp)
    rw [List.reverse_cons, be_snoc, List.length_append, List.length_singleton, beOf_snoc _ _ _ h2, ih h1]
theorem pv_form' (most : Nat) : ∀ (xs : List Nat) (i n : Nat), (∀ x ∈ xs, x < 256) → (pVar most xs i n).fault = 0 → ∃ k V, (pVar most xs i n).size = i + k + 1 ∧ (pVar most xs i n).num = n + 128 ^ i * V ∧ varOf V k = xs.take (k + 1) ∧ V < 128 ^ (k + 1) ∧ ((i = 0 ∧ k = 0) ∨ 128 ^ k ≤ V) := by
  intro xs
  induction xs with
  | nil => intro i n _ h; simp [pVar, no] at h
  | cons c cs ih =>
    intro i n hs h
    unfold pVar at h ⊢
    by_cases h1 : i = 9 ∧ 1 < c
    · rw [if_pos h1] at h; simp [no] at h
    · rw [if_neg h1] at h ⊢
      by_cases h2 : 128 ≤ c
      · rw [if_pos h2] at h ⊢
        have hc := hs c (by simp)
        obtain ⟨k, V, e1, e2, e3, e4, e5⟩ := ih _ _ (fun x hx => hs x (List.mem_cons_of_mem _ hx)) h
        refine ⟨k + 1, (c - 128) + 128 * V, ?_, ?_, ?_, ?_, ?_⟩
        · rw [e1]; omega
        · rw [e2, Nat.pow_succ]
          rw [Nat.mul_add, Nat.mul_comm (c - 128), Nat.mul_assoc]
          omega
        · rw [varOf_cons, show ((c - 128) + 128 * V) % 128 + 128 = c by omega, show ((c - 128) + 128 * V) / 128 = V by omega, e3]
          rfl
        · rw [Nat.pow_succ]; omega
        · right
          rcases e5 with ⟨h0, _⟩ | h5
          · omega
          · rw [Nat.pow_succ]; omega
      · rw [if_neg h2] at h ⊢
        by_cases h3 : c = 0 ∧ 0 < i
        · rw [if_pos h3] at h; simp [no] at h
        · rw [if_neg h3] at h ⊢
          by_cases h4 : most < n + c * 128 ^ i
          · rw [if_pos h4] at h; simp [no] at h
          · rw [if_neg h4]
            refine ⟨0, c, rfl, by simp only; rw [Nat.mul_comm], by simp [varOf], by omega, ?_⟩
            by_cases hi : i = 0
            · left; exact ⟨hi, rfl⟩
            · right; simp; omega
theorem vs_eq (n k : Nat) (hn : n < 18446744073709551616) (h1 : n < 128 ^ (k + 1)) (h2 : k = 0 ∨ 128 ^ k ≤ n) : vs n = k + 1 := by
  have f := vs_fits n hn
  have l := vs_least n hn
  have hp := (vs_bounds n hn).1
  rcases Nat.lt_trichotomy (vs n) (k + 1) with h | h | h
  · rcases h2 with rfl | h2
    · omega
    · have := Nat.pow_le_pow_right (n := 128) (by omega) (show vs n ≤ k by omega)
      omega
  · exact h
  · have := l (by omega)
    have := Nat.pow_le_pow_right (n := 128) (by omega) (show k + 1 ≤ vs n - 1 by omega)
    omega
theorem pv_again (most : Nat) (xs : List Nat) (hs : ∀ x ∈ xs, x < 256) (hm : most < 18446744073709551616) (h : (pVar most xs 0 0).fault = 0) :
    varOf (pVar most xs 0 0).num (vs (pVar most xs 0 0).num - 1) = xs.take (pVar most xs 0 0).size := by
  obtain ⟨k, V, e1, e2, e3, e4, e5⟩ := pv_form' most xs 0 0 hs h
  have h4 := pv_size most xs 0 0 h
  simp only [Nat.pow_zero, Nat.one_mul, Nat.zero_add] at e1 e2
  rw [e1, e2]
  have hv := vs_eq V k (by rw [← e2]; omega) e4 (by rcases e5 with h | h; exact Or.inl h.2; exact Or.inr h)
  rw [hv, Nat.add_sub_cancel, e3]
end Go.Proofs.YtjcdnclfakmbpaaGreatDoor.C
namespace Go.Proofs.YtjcdnclfakmbpaaGreatDoor.C
open Go.RowKit
theorem rn_ok (k : Int) (bound : Nat) (xs : List Nat) (a : Nat) (h : (rNext k bound xs a 0).2.2 = 0) : (pFind k bound (xs.drop a)).fault = 0 ∧ rNext k bound xs a 0 = (pFind k bound (xs.drop a), a + (pFind k bound (xs.drop a)).size, 0) := by
  unfold rNext at h ⊢
  rw [if_neg (by omega)] at h ⊢
  by_cases h1 : (pFind k bound (xs.drop a)).fault ≠ 0
  · rw [if_pos h1] at h; exact absurd h h1
  · rw [if_neg h1]; exact ⟨by omega, rfl⟩
theorem rn_bad (k : Int) (bound : Nat) (xs : List Nat) (a : Nat) (h : (rNext k bound xs a 0).2.2 ≠ 0) : (rNext k bound xs a 0).2.1 = a := by
  unfold rNext at h ⊢
  rw [if_neg (by omega)] at h ⊢
  by_cases h1 : (pFind k bound (xs.drop a)).fault ≠ 0
  · rw [if_pos h1]
  · rw [if_neg h1] at h; exact absurd rfl h
def Anew (xs : List Nat) (a : Nat) (x : It × Nat × Nat) (new : List Nat) : Prop :=
  (x.2.2 = 0 → a ≤ x.2.1 ∧ x.2.1 ≤ xs.length ∧ new = (xs.drop a).take (x.2.1 - a)) ∧ (x.2.2 ≠ 0 → x.2.1 = a) ∧ new.length ≤ xs.length + 10
theorem anew_fixed (k : Int) (s : Nat) (xs : List Nat) (a : Nat) (hs : ∀ x ∈ xs, x < 256) (ha : a ≤ xs.length) (hk : width k = s) (hs8 : s ≤ 8) (h3 : k ≠ 3) (h4 : k ≠ 4) (h5 : k ≠ 5) : Anew xs a (rNext k 0 xs a 0) (beOf (rNext k 0 xs a 0).1.num s) := by
  refine ⟨fun h => ?_, rn_bad k 0 xs a, by simp [beOf]; omega⟩
  obtain ⟨h1, e⟩ := rn_ok k 0 xs a h
  rw [e]
  have hsz := pf_size k 0 (xs.drop a) h1
  rw [List.length_drop] at hsz
  refine ⟨by simp only; omega, by simp only; omega, ?_⟩
  simp only [pFind, if_neg h3, if_neg h4, if_neg h5, hk] at h1 ⊢
  unfold pFixed at h1 ⊢
  by_cases hl : (xs.drop a).length < s
  · rw [if_pos hl] at h1; simp [no] at h1
  · rw [if_neg hl]
    simp only
    have hlen : ((xs.drop a).take s).length = s := by rw [List.length_take]; omega
    have := beOf_be ((xs.drop a).take s) (fun x hx => hs x (List.mem_of_mem_drop (List.mem_of_mem_take hx)))
    rw [hlen] at this
    rw [this, Nat.add_sub_cancel_left]
theorem anew_var (n : Nat) (xs : List Nat) (a : Nat) (hs : ∀ x ∈ xs, x < 256) (ha : a ≤ xs.length) (hn : n < 18446744073709551616) : Anew xs a (rNext 3 n xs a 0) (varOf (rNext 3 n xs a 0).1.num (vs (rNext 3 n xs a 0).1.num - 1)) := by
  have hsm : ∀ x ∈ xs.drop a, x < 256 := fun x hx => hs x (List.mem_of_mem_drop hx)
  have hb : (rNext 3 n xs a 0).1.num < 18446744073709551616 := by
    unfold rNext
    rw [if_neg (by omega)]
    by_cases h1 : (pFind 3 n (xs.drop a)).fault ≠ 0
    · rw [if_pos h1]; simp [no]
    · rw [if_neg h1]
      simp only [pFind, if_true] at h1 ⊢
      have := (pv_size n (xs.drop a) 0 0 (by omega)).2.2.1
      omega
  refine ⟨fun h => ?_, rn_bad 3 n xs a, by rw [varOf_length]; have := vs_bounds _ hb; omega⟩
  obtain ⟨h1, e⟩ := rn_ok 3 n xs a h
  rw [e]
  have hsz := pf_size 3 n (xs.drop a) h1
  rw [List.length_drop] at hsz
  refine ⟨by simp only; omega, by simp only; omega, ?_⟩
  simp only [pFind, if_true] at h1 ⊢
  rw [pv_again n (xs.drop a) hsm hn h1, Nat.add_sub_cancel_left]
theorem anew_text (m : Int) (xs : List Nat) (a : Nat) (hs : ∀ x ∈ xs, x < 256) (ha : a ≤ xs.length) (hm : m ≤ 9223372036854775807) (hl : xs.length ≤ 140737488355328) :
    Anew xs a (rText m xs a 0) (varOf (got xs a (rText m xs a 0)).length (vs (got xs a (rText m xs a 0)).length - 1) ++ got xs a (rText m xs a 0)) := by
  have hsm : ∀ x ∈ xs.drop a, x < 256 := fun x hx => hs x (List.mem_of_mem_drop hx)
  have hgl : (got xs a (rText m xs a 0)).length ≤ xs.length := by unfold got; rw [List.length_take, List.length_drop, List.length_drop]; omega
  refine ⟨fun h => ?_, rn_bad 4 _ xs a, by rw [List.length_append, varOf_length]; have := vs_bounds (got xs a (rText m xs a 0)).length (by omega); omega⟩
  unfold rText at h ⊢
  generalize hM : (max 0 m).toNat = M at *
  have hM64 : M < 18446744073709551616 := by omega
  obtain ⟨h1, e⟩ := rn_ok 4 M xs a h
  have hlen := rn_len 4 M xs a 0
  rw [e] at hlen ⊢
  have hsz := pf_size 4 M (xs.drop a) h1
  rw [List.length_drop] at hsz
  refine ⟨by simp only; omega, by simp only; omega, ?_⟩
  simp only [pFind, show ¬ (4 : Int) = 3 by omega, if_false, if_true] at h1 hlen ⊢
  have hv0 : (pVar M (xs.drop a) 0 0).fault = 0 := by
    by_cases hx : (pVar M (xs.drop a) 0 0).fault = 0
    · exact hx
    · unfold pBytes at h1; simp only [ne_eq, hx, not_false_eq_true, if_true, no] at h1
  have hag := pv_again M (xs.drop a) hsm hM64 hv0
  unfold got
  unfold pBytes at h1 hlen ⊢
  simp only [hv0, ne_eq, not_true_eq_false, if_false] at h1 hlen ⊢
  by_cases h6 : (xs.drop a).length - (pVar M (xs.drop a) 0 0).size < (pVar M (xs.drop a) 0 0).num
  · rw [if_pos h6] at h1; simp [no] at h1
  · rw [if_neg h6] at hlen ⊢
    simp only at hlen ⊢
    rw [hlen, hag, Nat.add_sub_cancel_left, List.take_add]
theorem below_draws2 {B : Nat} {a w : World} (h : Below B a w) (n : Nat) : Below B a (w.drewN n) := h.trans ⟨rfl, rfl, rfl, Nat.le_refl _, fun _ _ => rfl⟩
end Go.Proofs.YtjcdnclfakmbpaaGreatDoor.C
namespace Go.Proofs.YtjcdnclfakmbpaaGreatDoor.C
open Go.RowKit
def fxRow (n s j : Nat) : List Value := List.replicate (s - j) (.int .u8 0) ++ (vals (beOf n s)).drop (s - j)
theorem fxRow_zero (n s : Nat) : fxRow n s 0 = List.replicate s (.int .u8 0) := by
  unfold fxRow
  rw [List.drop_of_length_le (by simp [vals, beOf]), List.append_nil, Nat.sub_zero]
theorem fxRow_all (n s : Nat) : fxRow n s s = vals (beOf n s) := by simp [fxRow]
theorem fxRow_len (n s j : Nat) (h : j ≤ s) : (fxRow n s j).length = s := by
  unfold fxRow
  rw [List.length_append, List.length_replicate, List.length_drop]
  simp only [vals, beOf, List.length_map, List.length_range]
  omega
theorem fxRow_step (n s j : Nat) (h : j < s) : (fxRow n s j).set (s - 1 - j) (.int .u8 ((n / 256 ^ j % 256 : Nat) : Int)) = fxRow n s (j + 1) := by
  apply List.ext_getElem?
  intro i
  unfold fxRow
  rw [List.getElem?_set]
  have hl : (vals (beOf n s)).length = s := by simp [vals, beOf]
  by_cases hi : s - 1 - j = i
  · subst hi
    rw [if_pos rfl, if_pos (by simp [hl]; omega)]
    rw [List.getElem?_append_right (by simp; omega), List.getElem?_drop, List.length_replicate]
    rw [show s - (j + 1) + (s - 1 - j - (s - (j + 1))) = s - 1 - j by omega]
    simp only [vals, beOf, List.getElem?_map]
    rw [List.getElem?_range (by omega)]
    simp only [Option.map_some]
    rw [show s - 1 - (s - 1 - j) = j by omega]
  · rw [if_neg hi]
    by_cases h1 : i < s - (j + 1)
    · rw [List.getElem?_append_left (by simp; omega), List.getElem?_append_left (by simp; omega)]
      rw [List.getElem?_replicate, List.getElem?_replicate, if_pos (by omega), if_pos h1]
    · rw [List.getElem?_append_right (by simp; omega), List.getElem?_append_right (by simp; omega), List.getElem?_drop, List.getElem?_drop]
      congr 1
      simp; omega
theorem made_rep (z : Value) (n : Nat) : madeCells #[z] n = (List.replicate n z).toArray := by
  apply Array.ext
  · simp [madeCells]
  · intro i h1 h2
    simp [madeCells, Nat.mod_one]
set_option maxRecDepth 100000 in
set_option maxHeartbeats 400000 in
theorem ref_fixed (w : World) (n s : Nat) (hs : s ≤ 8) (hn : n < 18446744073709551616) :
    Calls Tryz.prog 152 #[.int .u64 n, .int .i64 s] w fun e w' => e = .returned (.slice (some ⟨w.heap.size, 0, none⟩) s s) ∧ w' = w.alloc (.cells (vals (beOf n s)).toArray 5) := by
  have hmk := run_make_row' (P := Tryz.prog) 31 5 (.int .u8 0) 1 Tryz.underlying31 Tryz.info5 rfl .i64 .i64 s (by omega) (by omega)
  have HZ : Hid (madeCells #[Value.int .u8 0] s = (fxRow n s 0).toArray) := by show _ = _; rw [made_rep, fxRow_zero]
  generalize madeCells #[Value.int .u8 0] s = Z at *
  go_enter Tryz.func152, Tryz.ntmps152
  go_wp2
  clear hmk
  go_loopw [0, 6] (fun nn i wr => ∃ (j N : Nat) (C : Array Value), j ≤ s ∧ i = .int .i64 ((s : Int) - 1 - (j : Int)) ∧ nn = .int .u64 (N : Int) ∧ wr = w.alloc (.cells C 5) ∧ Hid (N = n / 256 ^ j) ∧ Hid (C = (fxRow n s j).toArray)) (fun _ i _ => (intOf i + 1).toNat)
  case atStart => exact ⟨0, n, Z, Nat.zero_le _, by simp, rfl, rfl, by simp [Hid], HZ⟩
  case round =>
    obtain ⟨j, N, C, hj, rfl, rfl, hwr, HN, HC⟩ := hrel
    subst hwr
    by_cases hlt : j < s
    · have hsz : C.size = s := by rw [HC.out]; simp [fxRow_len n s j hj]
      have i1 : (0 : Int) ≤ (s : Int) - 1 - (j : Int) := by omega
      have i2 : (s : Int) - 1 - (j : Int) < (s : Int) := by omega
      have hcell : ∃ u, (w.alloc (.cells C 5)).cell? ⟨w.heap.size, s - 1 - j, none⟩ = some u := by
        have hlt' : s - 1 - j < C.size := by omega
        have hb := heap_alloc_new w (.cells C 5 (0, 0))
        exact ⟨C[s - 1 - j], by simp only [World.cell?, hb]; simp [hlt']⟩
      obtain ⟨u, hu⟩ := hcell
      have hfz : (w.alloc (.cells C 5)).frozen? ⟨w.heap.size, s - 1 - j, none⟩ = false := by
        have hb := heap_alloc_new w (.cells C 5 (0, 0))
        simp only [World.frozen?, hb]; simp
      have HS1 : Hid (C.setIfInBounds (s - 1 - j) (.int .u8 ((N : Int) % 256)) = (fxRow n s (j + 1)).toArray) := by
        show _ = _
        rw [← fxRow_step n s j hlt, HC.out, HN.out, List.setIfInBounds_toArray]
        simp
      have HN1 : Hid (N / 256 = n / 256 ^ (j + 1)) := by show _ = _; rw [HN.out, Nat.div_div_eq_div_mul, Nat.pow_succ]
      have hwp : IntKind.u64.wrap ((N : Int) / 256) = ((N / 256 : Nat) : Int) := by
        have : N ≤ n := by rw [HN.out]; exact Nat.div_le_self _ _
        rw [IntKind.wrap_u64]; omega
      clear hsz
      go_wp2
      go_roundw
      case rel => exact ⟨j + 1, N / 256, _, by omega, by go_num, by simp, rfl, HN1, HS1⟩
      case measure => simp [intOf]; omega
    · obtain rfl : j = s := by omega
      go_wp2
      go_ret
      refine ⟨rfl, ?_⟩
      rw [HC.out, fxRow_all]
set_option maxRecDepth 100000 in
set_option maxHeartbeats 400000 in
theorem ref_u32 (w : World) (n : Nat) (hn : n < 4294967296) :
    Calls Tryz.prog 142 #[.int .u32 n] w fun e w' => e = .returned (.slice (some ⟨w.heap.size, 0, none⟩) 4 4) ∧ w' = w.alloc (.cells (vals (beOf n 4)).toArray 5) := by
  have HC := hide (ref_fixed w n 4 (by omega) (by omega))
  generalize vals (beOf n 4) = V at *
  go_enter Tryz.func142, Tryz.ntmps142
  go_wp2_with fail
  refine HC.out.mono ?_
  rintro e w' ⟨rfl, rfl⟩
  go_wp2
  go_ret
  exact ⟨rfl, rfl⟩
theorem vs_div (n : Nat) (hn : n < 18446744073709551616) (h : 128 ≤ n) : vs n = vs (n / 128) + 1 := by
  have hb := vs_bounds (n / 128) (by omega)
  have hf := vs_fits (n / 128) (by omega)
  have hl := vs_least (n / 128) (by omega)
  have e := vs_eq n (vs (n / 128)) hn (by
    rw [Nat.pow_succ]
    have := Nat.div_add_mod n 128
    have := Nat.mod_lt n (show 0 < 128 by omega)
    omega) (Or.inr (by
      by_cases h1 : 1 < vs (n / 128)
      · have h2 := hl h1
        have e : vs (n / 128) = vs (n / 128) - 1 + 1 := by omega
        rw [e, Nat.pow_succ]
        have := Nat.div_mul_le_self n 128
        have := Nat.mul_le_mul_right 128 h2
        omega
      · have : vs (n / 128) = 1 := by omega
        rw [this]; simpa using h))
  exact e
theorem vs_one (n : Nat) (h : n < 128) : vs n = 1 := vs_eq n 0 (by omega) (by simpa using h) (Or.inl rfl)
theorem owns_cells {w : World} {B g n c : Nat} {e : TypeId} {xs : List Value} (h : w.ownsRow B e 1 (.slice (some ⟨g, 0, none⟩) n c) n xs) : ∀ j u, xs[j]? = some u → w.cell? ((⟨g, 0, none⟩ : Addr).add j) = some u := by
  intro j u hj
  rcases h.2 with ⟨h1, _⟩ | ⟨g', cap, cur, h1, _, hg, _, _, _, ht⟩
  · cases h1
  · cases h1
    have hadd : (⟨g, 0, none⟩ : Addr).add j = ⟨g, j, none⟩ := by unfold Addr.add; split <;> simp_all
    have hjl : j < xs.length := (List.getElem?_eq_some_iff.1 hj).1
    have hxl := h.1
    rw [← ht, List.getElem?_take, if_pos (by omega)] at hj
    rw [hadd]
    simp only [World.cell?, hg]
    simpa using hj
theorem owns_built (w : World) (x : Value) : (w.alloc (.cells #[x] 5)).ownsRow w.heap.size 5 1 (.slice (some ⟨w.heap.size, 0, none⟩) 1 1) 1 [x] :=
  ⟨rfl, Or.inr ⟨w.heap.size, 1, #[x], rfl, Nat.le_refl _, heap_alloc_new _ _, Nat.le_refl _, by unfold maxLen; omega, rfl, rfl⟩⟩
theorem owns_below {w w' : World} {B n : Nat} {e : TypeId} {size : Nat} {v : Value} {xs : List Value} (h : w.ownsRow B e size v n xs) (hb : Below w.heap.size w w') : w'.ownsRow B e size v n xs := by
  refine ⟨h.1, h.2.elim Or.inl ?_⟩
  rintro ⟨g, cap, cur, h1, h2, hg, r⟩
  exact Or.inr ⟨g, cap, cur, h1, h2, (hb.block g (Array.getElem?_eq_some_iff.1 hg).1).trans hg, r⟩
set_option maxRecDepth 100000 in
set_option maxHeartbeats 400000 in
theorem ref_var_small (w : World) (n : Nat) (h : n < 128) :
    Calls Tryz.prog 139 #[.int .u64 n] w fun e w' => e = .returned (.slice (some ⟨w.heap.size, 0, none⟩) 1 1) ∧ w' = w.alloc (.cells #[.int .u8 (n : Int)] 5) := by
  have h1 : (n : Int) < 128 := by omega
  have h2 : (n : Int) % 256 = (n : Int) := by omega
  go_enter Tryz.func139, Tryz.ntmps139
  go_wp2
  go_ret
  exact ⟨rfl, rfl⟩
def Vared (w w' : World) (n : Nat) (e : Ending) : Prop :=
  ∃ g c, e = .returned (.slice (some ⟨g, 0, none⟩) (vs n) c) ∧ w'.ownsRow w.heap.size 5 1 (.slice (some ⟨g, 0, none⟩) (vs n) c) (vs n) (vals (varOf n (vs n - 1))) ∧ Below w.heap.size w w'
set_option maxRecDepth 100000 in
set_option maxHeartbeats 1000000 in
theorem ref_var_big (w : World) (n : Nat) (hn : n < 18446744073709551616) (h : 128 ≤ n) (hrec : ∀ w, Calls Tryz.prog 139 #[.int .u64 (n / 128 : Nat)] w fun e w' => Vared w w' (n / 128) e) :
    Calls Tryz.prog 139 #[.int .u64 n] w fun e w' => Vared w w' n e := by
  obtain ⟨i0, hi, hz0, hz1, hz2⟩ := info_parts Tryz.info5'
  have hv := vs_bounds (n / 128) (by omega)
  have HV := hide (vs_div n hn h)
  have HE : Hid (vals (varOf n (vs n - 1)) = [.int .u8 ((n % 128 + 128 : Nat) : Int)] ++ vals (varOf (n / 128) (vs (n / 128) - 1))) := by
    show _ = _
    rw [HV.out, Nat.add_sub_cancel, show vs (n / 128) = (vs (n / 128) - 1) + 1 by omega, varOf_cons]
    simp [vals]
  have HL : Hid ((vals (varOf (n / 128) (vs (n / 128) - 1))).length = vs (n / 128) * 1) := by show _ = _; simp [vals, varOf_length]; omega
  have H1 : Hid (∀ u ∈ vals (varOf (n / 128) (vs (n / 128) - 1)), u.oneCell' = true) := fun u hu => by
    simp only [vals, List.mem_map] at hu
    obtain ⟨x, _, rfl⟩ := hu
    rfl
  have hnot : ¬ (n : Int) < 128 := by omega
  have hx1 : 128 + (n : Int) % 128 = ((n % 128 + 128 : Nat) : Int) := by omega
  have hq : (n : Int) / 128 = ((n / 128 : Nat) : Int) := by omega
  generalize hM : n / 128 = M at *
  generalize hX : n % 128 + 128 = X at *
  have HR := hide hrec
  clear hrec hM hX
  go_enter Tryz.func139, Tryz.ntmps139
  go_wp2_with fail
  refine (HR.out _).mono ?_
  rintro e w1 ⟨g, c, rfl, hown1, hb1⟩
  have HO := hide (owns_below (owns_built w (.int .u8 (X : Int))) hb1)
  have HN := hide (owns_cells hown1)
  have hs1 : w.heap.size + 1 ≤ w1.heap.size := by have := hb1.size; simp at this; omega
  have HB1 : Hid (Below w.heap.size w w1) := ((Below.refl _ _).alloc (Nat.le_refl _) _).trans (hb1.mono (by simp))
  clear hown1 hb1 HR
  generalize vs M = V at *
  generalize vals (varOf M (V - 1)) = Y at *
  go_wp2_with (at_builtin; refine wpList_append_lies _ rfl (.tmp 14) (.tmp 17) 31 rfl w.heap.size 5 i0 (.int .u8 0) 1 1 Tryz.underlying31 hi hz0 hz1 hz2 rfl (by omega) _ _ _ rfl HO.out ⟨g, 0, none⟩ V c Y rfl HL.out HN.out H1.out (by omega) (by unfold maxLen; omega) (by omega) (by omega) _ rfl ?_; intro g' cap' w2 hown2 hgrow hat hltg)
  go_ret
  have e1 : vs n = 1 + V := by rw [HV.out]; omega
  refine ⟨g', cap', by rw [e1]; rfl, ?_, HB1.out.grown hgrow (by omega) (fun k e => Nat.le_of_eq (by injection e))⟩
  rw [HE.out, e1]
  exact hown2
theorem ref_var : ∀ (f n : Nat), n < 128 ^ (f + 1) → n < 18446744073709551616 → ∀ w : World, Calls Tryz.prog 139 #[.int .u64 n] w fun e w' => Vared w w' n e := by
  intro f
  induction f with
  | zero =>
    intro n h _ w
    have h1 : n < 128 := by simpa using h
    refine (ref_var_small w n h1).mono ?_
    rintro e w' ⟨rfl, rfl⟩
    rw [Vared, vs_one n h1]
    refine ⟨w.heap.size, 1, rfl, ?_, (Below.refl _ _).alloc (Nat.le_refl _) _⟩
    have := owns_built w (.int .u8 (n : Int))
    simpa [vals, varOf] using this
  | succ f ih =>
    intro n h hn w
    by_cases h1 : n < 128
    · refine (ref_var_small w n h1).mono ?_
      rintro e w' ⟨rfl, rfl⟩
      rw [Vared, vs_one n h1]
      refine ⟨w.heap.size, 1, rfl, ?_, (Below.refl _ _).alloc (Nat.le_refl _) _⟩
      have := owns_built w (.int .u8 (n : Int))
      simpa [vals, varOf] using this
    · refine ref_var_big w n hn (by omega) (fun w => ih (n / 128) ?_ (by omega) w)
      rw [Nat.div_lt_iff_lt_mul (by omega)]
      rw [Nat.pow_succ] at h; exact h
theorem ref_var_any (n : Nat) (hn : n < 18446744073709551616) (w : World) : Calls Tryz.prog 139 #[.int .u64 n] w fun e w' => Vared w w' n e :=
  ref_var 9 n (by have : (128 : Nat) ^ 10 = 1180591620717411303424 := rfl; omega) hn w
end Go.Proofs.YtjcdnclfakmbpaaGreatDoor.C
