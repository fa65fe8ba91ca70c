import Derived.Test.YtfjhbbekeibpkaaDoorCReader3
namespace Go.Proofs.YtfjhbbekeibpkaaDoor.C
open Go.RowKit

theorem ret_eq {v u : Value} (h : v = u) : Ending.returned v = .returned u := by rw [h]

/-- BYTES OF ONE's OWN: nil and none, or a block of their own from B on. -/
def Mine (B : Nat) (w : World) (sp : Option Addr) (ys : List Nat) : Prop :=
  (sp = none ∧ ys = []) ∨ ∃ g, sp = some ⟨g, 0, none⟩ ∧ B ≤ g ∧ w.heap[g]? = some (.cells (vals ys).toArray 5 (0, 0))

theorem Mine.bytes {B : Nat} {w : World} {sp : Option Addr} {ys : List Nat} (h : Mine B w sp ys) (hs : ∀ x ∈ ys, x < 256) : Bytes w sp ys := by
  refine ⟨hs, ?_⟩
  rcases h with ⟨-, h0⟩ | ⟨g, e, _, hg⟩
  · exact Or.inl h0
  · refine Or.inr ⟨g, 0, e, lt_of_block hg, fun j hj => ?_⟩
    simp only [World.cell?, hg]
    simp [vals, List.getD, List.getElem?_eq_getElem hj]

/-- What a read of bytes leaves. -/
def TookBytes (w w' : World) (b h : Nat) (xs : List Nat) (ys : List Nat) (a f : Nat) (e : Ending) : Prop :=
  ∃ sp, e = .returned (.slice sp ys.length ys.length) ∧ Mine w.heap.size w' sp ys ∧ (∀ x ∈ ys, x < 256) ∧ Rd w' b h xs a f ∧ But b w w'

theorem got_small {xs : List Nat} (h : ∀ x ∈ xs, x < 256) (a : Nat) (x : It × Nat × Nat) : ∀ y ∈ got xs a x, y < 256 :=
  fun y hy => h y (List.mem_of_mem_drop (List.mem_of_mem_drop (List.mem_of_mem_take hy)))

set_option maxRecDepth 100000 in
set_option maxHeartbeats 400000 in
theorem text_pos (w : World) (b h : Nat) (xs : List Nat) (a f : Nat) (m : Nat) (hm : m ≤ 9223372036854775807) (hm0 : (0 : Int) < (m : Int)) (hr : Rd w b h xs a f) :
    Calls Tryd.prog 50 #[.pointer (some ⟨b, 0, none⟩), .int .i64 m] w fun e w' => TookBytes w w' b h xs (got xs a (rNext 4 m xs a f)) (rNext 4 m xs a f).2.1 (rNext 4 m xs a f).2.2 e := by
  have HC := hide (next_any w b h xs a f 4 m hr (by omega))
  have HL : Hid ((got xs a (rNext 4 m xs a f)).length = (rNext 4 m xs a f).1.len) := rn_len 4 m xs a f
  have HS := hide (got_small hr.held.small a (rNext 4 m xs a f))
  generalize rNext 4 m xs a f = x at *
  clear hr
  have hfl := field_bytes
  go_enter Tryd.func50, Tryd.ntmps50
  go_wp2_with fail
  refine (unhide HC).mono ?_
  rintro e w1 ⟨bp, bc, rfl, hby, h1, h2, hr', hb⟩
  have HR := hide hr'
  have HB := hide hb
  have HY : Hid (Bytes w1 bp (got xs a x)) := hby
  clear hr' hb hby
  go_wp2_with fail
  refine (copied_bytes _ bp x.1.len bc (got xs a x) (unhide HL) (by omega) (unhide HY)).mono ?_
  rintro e w2 ⟨rfl, rfl⟩
  go_wp2
  go_ret
  refine ⟨some ⟨w1.heap.size, 0, none⟩, ret_eq (by rw [HL.out]; rfl), Or.inr ⟨w1.heap.size, rfl, HB.out.size, heap_alloc_new _ _⟩, HS.out, HR.out.below ((Below.refl _ _).alloc (Nat.le_refl _) _), HB.out.alloc _⟩

set_option maxRecDepth 100000 in
set_option maxHeartbeats 400000 in
theorem text_neg (w : World) (b h : Nat) (xs : List Nat) (a f : Nat) (m : Int) (hm : m ≤ 0) (hr : Rd w b h xs a f) :
    Calls Tryd.prog 50 #[.pointer (some ⟨b, 0, none⟩), .int .i64 m] w fun e w' => TookBytes w w' b h xs (got xs a (rNext 4 0 xs a f)) (rNext 4 0 xs a f).2.1 (rNext 4 0 xs a f).2.2 e := by
  have HC := hide (next_any w b h xs a f 4 0 hr (by omega))
  have HL : Hid ((got xs a (rNext 4 0 xs a f)).length = (rNext 4 0 xs a f).1.len) := rn_len 4 0 xs a f
  have HS := hide (got_small hr.held.small a (rNext 4 0 xs a f))
  generalize rNext 4 0 xs a f = x at *
  clear hr
  have hfl := field_bytes
  go_enter Tryd.func50, Tryd.ntmps50
  go_wp2_with fail
  refine (unhide HC).mono ?_
  rintro e w1 ⟨bp, bc, rfl, hby, h1, h2, hr', hb⟩
  have HR := hide hr'
  have HB := hide hb
  have HY : Hid (Bytes w1 bp (got xs a x)) := hby
  clear hr' hb hby
  go_wp2_with fail
  refine (copied_bytes _ bp x.1.len bc (got xs a x) (unhide HL) (by omega) (unhide HY)).mono ?_
  rintro e w2 ⟨rfl, rfl⟩
  go_wp2
  go_ret
  refine ⟨some ⟨w1.heap.size, 0, none⟩, ret_eq (by rw [HL.out]; rfl), Or.inr ⟨w1.heap.size, rfl, HB.out.size, heap_alloc_new _ _⟩, HS.out, HR.out.below ((Below.refl _ _).alloc (Nat.le_refl _) _), HB.out.alloc _⟩

theorem text_any (w : World) (b h : Nat) (xs : List Nat) (a f : Nat) (m : Int) (hm : m ≤ 9223372036854775807) (hr : Rd w b h xs a f) :
    Calls Tryd.prog 50 #[.pointer (some ⟨b, 0, none⟩), .int .i64 m] w fun e w' => TookBytes w w' b h xs (got xs a (rText m xs a f)) (rText m xs a f).2.1 (rText m xs a f).2.2 e := by
  by_cases h0 : m ≤ 0
  · have e : rText m xs a f = rNext 4 0 xs a f := by unfold rText; rw [show (max 0 m).toNat = 0 by omega]
    rw [e]; exact text_neg w b h xs a f m h0 hr
  · obtain ⟨n, rfl⟩ := Int.eq_ofNat_of_zero_le (show 0 ≤ m by omega)
    have e : rText (n : Int) xs a f = rNext 4 n xs a f := by unfold rText; rw [show (max 0 (n : Int)).toNat = n by omega]
    rw [e]; exact text_pos w b h xs a f n (by omega) (by omega) hr

end Go.Proofs.YtfjhbbekeibpkaaDoor.C
