import Derived.BigQuiet
import Derived.Deep.QuietTactic
import Derived.Test.YtjcdnclfakmbpaaGreatDoorCReader2
namespace Go.Proofs.YtjcdnclfakmbpaaGreatDoor.C
open Go.RowKit
theorem hide {p : Prop} (h : p) : Hid p := h
theorem unhide {p : Prop} (h : Hid p) : p := h
attribute [local go_sem ↓] Go.wp_at_zero Go.wp_at_succ
set_option maxRecDepth 100000 in
set_option maxHeartbeats 400000 in
theorem at_any (w : World) (b h : Nat) (xs : List Nat) (a f : Nat) (hr : Rd w b h xs a f) :
    Calls Tryz.prog 45 #[.pointer (some ⟨b, 0, none⟩)] w fun e w' => e = .returned (.int .i64 (a : Int)) ∧ w' = w := by
  obtain ⟨q0, q1, q2, qf⟩ := blk3 hr.blk
  clear hr
  go_enter Tryz.func45, Tryz.ntmps45
  go_wp2
  go_ret
  exact ⟨rfl, rfl⟩
set_option maxRecDepth 100000 in
set_option maxHeartbeats 400000 in
theorem left_any (w : World) (b h : Nat) (xs : List Nat) (a f : Nat) (hr : Rd w b h xs a f) :
    Calls Tryz.prog 94 #[.pointer (some ⟨b, 0, none⟩)] w fun e w' => e = .returned (.int .i64 ((xs.length - a : Nat) : Int)) ∧ w' = w.drew := by
  obtain ⟨q0, q1, q2, qf⟩ := blk3 hr.blk
  have h1 := hr.le
  have h2 := hr.len
  have he : Hid (((xs.length - a : Nat) : Int) = (xs.length : Int) - (a : Int)) := Int.ofNat_sub h1
  clear hr
  generalize xs.length = n at *
  go_enter Tryz.func94, Tryz.ntmps94
  go_wp2
  go_region
  go_wp2
  go_ret
  rw [he.out]
  exact ⟨rfl, rfl⟩
set_option maxRecDepth 100000 in
set_option maxHeartbeats 400000 in
theorem end_bad (w : World) (b h : Nat) (xs : List Nat) (a f : Nat) (hf : f ≠ 0) (hr : Rd w b h xs a f) :
    Calls Tryz.prog 47 #[.pointer (some ⟨b, 0, none⟩)] w fun e w' => e = .returned (.int .i64 (f : Int)) ∧ Below w.heap.size w w' := by
  obtain ⟨q0, q1, q2, qf⟩ := blk3 hr.blk
  have hb : ((f : Int) == 0) = false := by simp; omega
  clear hr
  go_enter Tryz.func47, Tryz.ntmps47
  go_wp2
  go_ret
  exact ⟨rfl, Below.refl _ _⟩
set_option maxRecDepth 100000 in
set_option maxHeartbeats 400000 in
theorem end_ok (w : World) (b h : Nat) (xs : List Nat) (a : Nat) (hr : Rd w b h xs a 0) :
    Calls Tryz.prog 47 #[.pointer (some ⟨b, 0, none⟩)] w fun e w' => e = .returned (.int .i64 (if a < xs.length then 13 else 0)) ∧ Below w.heap.size w w' := by
  obtain ⟨q0, q1, q2, qf⟩ := blk3 hr.blk
  have HR : Hid (Rd w b h xs a 0) := hr
  have h1 := hr.le
  have h2 := hr.len
  clear hr
  by_cases hlt : a < xs.length
  · rw [if_pos hlt]
    have h3 : (0 : Int) < ((xs.length - a : Nat) : Int) := by omega
    go_enter Tryz.func47, Tryz.ntmps47
    go_wp2_with fail
    refine (left_any _ b h xs a 0 HR.out).mono ?_
    rintro e w' ⟨rfl, rfl⟩
    go_wp2
    go_ret
    exact ⟨rfl, (Below.refl _ _).drew⟩
  · rw [if_neg hlt]
    have h3 : ¬ (0 : Int) < ((xs.length - a : Nat) : Int) := by omega
    go_enter Tryz.func47, Tryz.ntmps47
    go_wp2_with fail
    refine (left_any _ b h xs a 0 HR.out).mono ?_
    rintro e w' ⟨rfl, rfl⟩
    go_wp2
    go_ret
    exact ⟨rfl, (Below.refl _ _).drew⟩
def pEnd (n a f : Nat) : Nat := if f ≠ 0 then f else if a < n then 13 else 0
theorem end_any (w : World) (b h : Nat) (xs : List Nat) (a f : Nat) (hr : Rd w b h xs a f) :
    Calls Tryz.prog 47 #[.pointer (some ⟨b, 0, none⟩)] w fun e w' => e = .returned (.int .i64 (pEnd xs.length a f : Nat)) ∧ Below w.heap.size w w' := by
  by_cases hf : f ≠ 0
  · rw [pEnd, if_pos hf]; exact end_bad w b h xs a f hf hr
  · obtain rfl : f = 0 := by omega
    refine (end_ok w b h xs a hr).mono ?_
    rintro e w' ⟨rfl, hb⟩
    refine ⟨?_, hb⟩
    by_cases hlt : a < xs.length <;> simp [pEnd, hlt]
theorem new_reader (w : World) (xs : List Nat) (hs : ∀ x ∈ xs, x < 256) (hc : xs.length ≤ 140737488355328) :
    Rd ((w.alloc (.cells (vals xs).toArray 5)).alloc (.cells #[.slice (some ⟨w.heap.size, 0, none⟩) xs.length xs.length, .int .i64 0, .int .i64 0] 139)) (w.heap.size + 1) w.heap.size xs 0 0 := by
  refine ⟨heap_alloc_two w _ _, ⟨hs, Or.inr ⟨w.heap.size, 0, rfl, by simp; omega, fun j hj => ?_⟩⟩, hc, Nat.zero_le _⟩
  have h1 : ((w.alloc (.cells (vals xs).toArray 5)).alloc (.cells #[.slice (some ⟨w.heap.size, 0, none⟩) xs.length xs.length, .int .i64 0, .int .i64 0] 139)).heap[w.heap.size]? = some (.cells (vals xs).toArray 5 (0, 0)) := by
    rw [Below.heap_alloc _ _ _ (by simp)]; exact heap_alloc_new _ _
  simp only [World.cell?, h1]
  simp [vals, List.getD, List.getElem?_eq_getElem hj]
set_option maxRecDepth 100000 in
set_option maxHeartbeats 400000 in
theorem read_any (w : World) (sp : Option Addr) (len cap : Nat) (xs : List Nat) (hl : xs.length = len) (hc : len ≤ 140737488355328) (hB : Bytes w sp xs) :
    Calls Tryz.prog 40 #[.slice sp len cap] w fun e w' => e = .returned (.pointer (some ⟨w.heap.size + 1, 0, none⟩)) ∧ Rd w' (w.heap.size + 1) w.heap.size xs 0 0 ∧ Below w.heap.size w w' := by
  have HC : Hid (Calls Tryz.prog 92 #[.slice sp len cap] w fun e w' => e = .returned (.slice (some ⟨w.heap.size, 0, none⟩) len len) ∧ w' = w.alloc (.cells (vals xs).toArray 5)) := copied_bytes w sp len cap xs hl hc hB
  have HS : Hid (∀ x ∈ xs, x < 256) := hB.small
  have HL : Hid (xs.length = len) := hl
  clear hB hl
  go_enter Tryz.func40, Tryz.ntmps40
  go_wp2_with fail
  refine HC.out.mono ?_
  rintro e w' ⟨rfl, rfl⟩
  go_wp2
  go_ret
  refine ⟨rfl, ?_, ((Below.refl _ _).alloc (Nat.le_refl _) _).alloc (by simp) _⟩
  rw [← HL.out]
  exact new_reader w xs HS.out (by rw [HL.out]; exact hc)
theorem num_small1 (xs : List Nat) (h : ∀ x ∈ xs, x < 256) (k : Int) (bound a f : Nat) (hk : width k = 1 ∧ k ≠ 3 ∧ k ≠ 4 ∧ k ≠ 5) : (rNext k bound xs a f).1.num < 256 := by
  unfold rNext
  by_cases h0 : f ≠ 0
  · rw [if_pos h0]; simp [no]
  · rw [if_neg h0]
    by_cases h1 : (pFind k bound (xs.drop a)).fault ≠ 0
    · rw [if_pos h1]; simp [no]
    · rw [if_neg h1]
      simp only [pFind, if_neg hk.2.1, if_neg hk.2.2.1, if_neg hk.2.2.2, hk.1, pFixed]
      by_cases h2 : (xs.drop a).length < 1
      · rw [if_pos h2]; simp [no]
      · rw [if_neg h2]
        have := be_lt ((xs.drop a).take 1) (fun x hx => h x (List.mem_of_mem_drop (List.mem_of_mem_take hx)))
        have h3 : ((xs.drop a).take 1).length ≤ 1 := by simp; omega
        have h4 := Nat.pow_le_pow_right (n := 256) (by omega) h3
        simp only; omega
theorem num_small4 (xs : List Nat) (h : ∀ x ∈ xs, x < 256) (k : Int) (bound a f : Nat) (hk : width k = 4 ∧ k ≠ 3 ∧ k ≠ 4 ∧ k ≠ 5) : (rNext k bound xs a f).1.num < 4294967296 := by
  unfold rNext
  by_cases h0 : f ≠ 0
  · rw [if_pos h0]; simp [no]
  · rw [if_neg h0]
    by_cases h1 : (pFind k bound (xs.drop a)).fault ≠ 0
    · rw [if_pos h1]; simp [no]
    · rw [if_neg h1]
      simp only [pFind, if_neg hk.2.1, if_neg hk.2.2.1, if_neg hk.2.2.2, hk.1, pFixed]
      by_cases h2 : (xs.drop a).length < 4
      · rw [if_pos h2]; simp [no]
      · rw [if_neg h2]
        have := be_lt ((xs.drop a).take 4) (fun x hx => h x (List.mem_of_mem_drop (List.mem_of_mem_take hx)))
        have h3 : ((xs.drop a).take 4).length ≤ 4 := by simp; omega
        have h4 := Nat.pow_le_pow_right (n := 256) (by omega) h3
        simp only; omega
theorem field_num (x : Int) (a : Option Addr) (l c : Nat) (z : Int) (w : World) : Sem.run Tryz.prog (Instr.field 141 (.agg #[.int .u64 x, .slice a l c, .int .i64 z]) 0) w = .ok (.int .u64 x) w := by kernel_rfl
theorem field_bytes (x : Int) (a : Option Addr) (l c : Nat) (z : Int) (w : World) : Sem.run Tryz.prog (Instr.field 141 (.agg #[.int .u64 x, .slice a l c, .int .i64 z]) 1) w = .ok (.slice a l c) w := by kernel_rfl
def TookNum (kd : IntKind) (w w' : World) (b h : Nat) (xs : List Nat) (x : It × Nat × Nat) (e : Ending) : Prop :=
  e = .returned (.int kd (x.1.num : Int)) ∧ Rd w' b h xs x.2.1 x.2.2 ∧ But b w w'
set_option maxRecDepth 100000 in
set_option maxHeartbeats 400000 in
theorem var_read (w : World) (b h : Nat) (xs : List Nat) (a f : Nat) (most : Nat) (hm : most < 18446744073709551616) (hr : Rd w b h xs a f) :
    Calls Tryz.prog 42 #[.pointer (some ⟨b, 0, none⟩), .int .u64 (most : Int)] w fun e w' => TookNum .u64 w w' b h xs (rNext 3 most xs a f) e := by
  have HC := hide (next_any w b h xs a f 3 most hr (by omega))
  generalize rNext 3 most xs a f = x at *
  clear hr
  have hfl := field_num
  go_enter Tryz.func42, Tryz.ntmps42
  go_wp2_with fail
  refine (unhide HC).mono ?_
  rintro e w' ⟨bp, bc, rfl, -, -, -, hr', hb⟩
  have HR := hide hr'
  have HB := hide hb
  clear hr' hb
  go_wp2
  go_ret
  exact ⟨rfl, unhide HR, unhide HB⟩
set_option maxRecDepth 100000 in
set_option maxHeartbeats 400000 in
theorem u8_any (w : World) (b h : Nat) (xs : List Nat) (a f : Nat) (hr : Rd w b h xs a f) :
    Calls Tryz.prog 41 #[.pointer (some ⟨b, 0, none⟩)] w fun e w' => TookNum .u8 w w' b h xs (rNext 0 0 xs a f) e := by
  have HC := hide (next_any w b h xs a f 0 0 hr (by omega))
  have hs := num_small1 xs hr.held.small 0 0 a f (by simp [width])
  generalize rNext 0 0 xs a f = x at *
  clear hr
  have hfl := field_num
  go_enter Tryz.func41, Tryz.ntmps41
  go_wp2_with fail
  refine (unhide HC).mono ?_
  rintro e w' ⟨bp, bc, rfl, -, -, -, hr', hb⟩
  have HR := hide hr'
  have HB := hide hb
  clear hr' hb
  go_wp2
  go_ret
  exact ⟨rfl, unhide HR, unhide HB⟩
set_option maxRecDepth 100000 in
set_option maxHeartbeats 400000 in
theorem u32_any (w : World) (b h : Nat) (xs : List Nat) (a f : Nat) (hr : Rd w b h xs a f) :
    Calls Tryz.prog 46 #[.pointer (some ⟨b, 0, none⟩)] w fun e w' => TookNum .u32 w w' b h xs (rNext 1 0 xs a f) e := by
  have HC := hide (next_any w b h xs a f 1 0 hr (by omega))
  have hs := num_small4 xs hr.held.small 1 0 a f (by simp [width])
  generalize rNext 1 0 xs a f = x at *
  clear hr
  have hfl := field_num
  go_enter Tryz.func46, Tryz.ntmps46
  go_wp2_with fail
  refine (unhide HC).mono ?_
  rintro e w' ⟨bp, bc, rfl, -, -, -, hr', hb⟩
  have HR := hide hr'
  have HB := hide hb
  clear hr' hb
  go_wp2
  go_ret
  exact ⟨rfl, unhide HR, unhide HB⟩
end Go.Proofs.YtjcdnclfakmbpaaGreatDoor.C
namespace Go.Proofs.YtjcdnclfakmbpaaGreatDoor.C
open Go.RowKit
theorem ret_eq {v u : Value} (h : v = u) : Ending.returned v = .returned u := by rw [h]
def Mine (B : Nat) (w : World) (sp : Option Addr) (ys : List Nat) : Prop :=
  (sp = none ∧ ys = []) ∨ ∃ g, sp = some ⟨g, 0, none⟩ ∧ B ≤ g ∧ w.heap[g]? = some (.cells (vals ys).toArray 5 (0, 0))
theorem Mine.bytes {B : Nat} {w : World} {sp : Option Addr} {ys : List Nat} (h : Mine B w sp ys) (hs : ∀ x ∈ ys, x < 256) : Bytes w sp ys := by
  refine ⟨hs, ?_⟩
  rcases h with ⟨-, h0⟩ | ⟨g, e, _, hg⟩
  · exact Or.inl h0
  · refine Or.inr ⟨g, 0, e, lt_of_block hg, fun j hj => ?_⟩
    simp only [World.cell?, hg]
    simp [vals, List.getD, List.getElem?_eq_getElem hj]
def TookBytes (w w' : World) (b h : Nat) (xs : List Nat) (ys : List Nat) (a f : Nat) (e : Ending) : Prop :=
  ∃ sp, e = .returned (.slice sp ys.length ys.length) ∧ Mine w.heap.size w' sp ys ∧ (∀ x ∈ ys, x < 256) ∧ Rd w' b h xs a f ∧ But b w w'
theorem got_small {xs : List Nat} (h : ∀ x ∈ xs, x < 256) (a : Nat) (x : It × Nat × Nat) : ∀ y ∈ got xs a x, y < 256 :=
  fun y hy => h y (List.mem_of_mem_drop (List.mem_of_mem_drop (List.mem_of_mem_take hy)))
set_option maxRecDepth 100000 in
set_option maxHeartbeats 400000 in
theorem text_pos (w : World) (b h : Nat) (xs : List Nat) (a f : Nat) (m : Nat) (hm : m ≤ 9223372036854775807) (hm0 : (0 : Int) < (m : Int)) (hr : Rd w b h xs a f) :
    Calls Tryz.prog 43 #[.pointer (some ⟨b, 0, none⟩), .int .i64 m] w fun e w' => TookBytes w w' b h xs (got xs a (rNext 4 m xs a f)) (rNext 4 m xs a f).2.1 (rNext 4 m xs a f).2.2 e := by
  have HC := hide (next_any w b h xs a f 4 m hr (by omega))
  have HL : Hid ((got xs a (rNext 4 m xs a f)).length = (rNext 4 m xs a f).1.len) := rn_len 4 m xs a f
  have HS := hide (got_small hr.held.small a (rNext 4 m xs a f))
  generalize rNext 4 m xs a f = x at *
  clear hr
  have hfl := field_bytes
  go_enter Tryz.func43, Tryz.ntmps43
  go_wp2_with fail
  refine (unhide HC).mono ?_
  rintro e w1 ⟨bp, bc, rfl, hby, h1, h2, hr', hb⟩
  have HR := hide hr'
  have HB := hide hb
  have HY : Hid (Bytes w1 bp (got xs a x)) := hby
  clear hr' hb hby
  go_wp2_with fail
  refine (copied_bytes _ bp x.1.len bc (got xs a x) (unhide HL) (by omega) (unhide HY)).mono ?_
  rintro e w2 ⟨rfl, rfl⟩
  go_wp2
  go_ret
  refine ⟨some ⟨w1.heap.size, 0, none⟩, ret_eq (by rw [HL.out]; rfl), Or.inr ⟨w1.heap.size, rfl, HB.out.size, heap_alloc_new _ _⟩, HS.out, HR.out.below ((Below.refl _ _).alloc (Nat.le_refl _) _), HB.out.alloc _⟩
set_option maxRecDepth 100000 in
set_option maxHeartbeats 400000 in
theorem text_neg (w : World) (b h : Nat) (xs : List Nat) (a f : Nat) (m : Int) (hm : m ≤ 0) (hr : Rd w b h xs a f) :
    Calls Tryz.prog 43 #[.pointer (some ⟨b, 0, none⟩), .int .i64 m] w fun e w' => TookBytes w w' b h xs (got xs a (rNext 4 0 xs a f)) (rNext 4 0 xs a f).2.1 (rNext 4 0 xs a f).2.2 e := by
  have HC := hide (next_any w b h xs a f 4 0 hr (by omega))
  have HL : Hid ((got xs a (rNext 4 0 xs a f)).length = (rNext 4 0 xs a f).1.len) := rn_len 4 0 xs a f
  have HS := hide (got_small hr.held.small a (rNext 4 0 xs a f))
  generalize rNext 4 0 xs a f = x at *
  clear hr
  have hfl := field_bytes
  go_enter Tryz.func43, Tryz.ntmps43
  go_wp2_with fail
  refine (unhide HC).mono ?_
  rintro e w1 ⟨bp, bc, rfl, hby, h1, h2, hr', hb⟩
  have HR := hide hr'
  have HB := hide hb
  have HY : Hid (Bytes w1 bp (got xs a x)) := hby
  clear hr' hb hby
  go_wp2_with fail
  refine (copied_bytes _ bp x.1.len bc (got xs a x) (unhide HL) (by omega) (unhide HY)).mono ?_
  rintro e w2 ⟨rfl, rfl⟩
  go_wp2
  go_ret
  refine ⟨some ⟨w1.heap.size, 0, none⟩, ret_eq (by rw [HL.out]; rfl), Or.inr ⟨w1.heap.size, rfl, HB.out.size, heap_alloc_new _ _⟩, HS.out, HR.out.below ((Below.refl _ _).alloc (Nat.le_refl _) _), HB.out.alloc _⟩
theorem text_any (w : World) (b h : Nat) (xs : List Nat) (a f : Nat) (m : Int) (hm : m ≤ 9223372036854775807) (hr : Rd w b h xs a f) :
    Calls Tryz.prog 43 #[.pointer (some ⟨b, 0, none⟩), .int .i64 m] w fun e w' => TookBytes w w' b h xs (got xs a (rText m xs a f)) (rText m xs a f).2.1 (rText m xs a f).2.2 e := by
  by_cases h0 : m ≤ 0
  · have e : rText m xs a f = rNext 4 0 xs a f := by unfold rText; rw [show (max 0 m).toNat = 0 by omega]
    rw [e]; exact text_neg w b h xs a f m h0 hr
  · obtain ⟨n, rfl⟩ := Int.eq_ofNat_of_zero_le (show 0 ≤ m by omega)
    have e : rText (n : Int) xs a f = rNext 4 n xs a f := by unfold rText; rw [show (max 0 (n : Int)).toNat = n by omega]
    rw [e]; exact text_pos w b h xs a f n (by omega) (by omega) hr
end Go.Proofs.YtjcdnclfakmbpaaGreatDoor.C
