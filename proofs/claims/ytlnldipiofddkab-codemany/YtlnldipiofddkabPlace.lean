import Derived.Test.YtlnldipiofddkabOther
namespace Go.Proofs.Ytlnldipiofddkab
open Go.RowKit

theorem bytes_block {w w' : World} {sp : Option Addr} {xs : List Nat} (h : Bytes w sp xs) (hk : ∀ p, sp = some p → w'.heap[p.block]? = w.heap[p.block]?) (hs : w.heap.size ≤ w'.heap.size) : Bytes w' sp xs := by
  refine ⟨h.small, ?_⟩
  rcases h.lie with h0 | ⟨g, o, rfl, hg, hc⟩
  · exact Or.inl h0
  · exact Or.inr ⟨g, o, rfl, Nat.lt_of_lt_of_le hg hs, fun j hj => by rw [World.cell?_of_block (w := w) (a := ⟨g, o + j, none⟩) (hk ⟨g, o, none⟩ rfl)]; exact hc j hj⟩
theorem Rd.blocks {w w' : World} {b h : Nat} {xs : List Nat} {a f : Nat} (r : Rd w b h xs a f) (h1 : w'.heap[b]? = w.heap[b]?) (h2 : w'.heap[h]? = w.heap[h]?) (hs : w.heap.size ≤ w'.heap.size) : Rd w' b h xs a f :=
  ⟨h1.trans r.blk, bytes_block r.held (fun p e => by cases e; exact h2) hs, r.len, r.le⟩
theorem blk2 {w : World} {b : Nat} {x0 x1 : Value} {t : TypeId} (h : w.heap[b]? = some (.cells #[x0, x1] t (0, 0))) : w.cell? ⟨b, 0, none⟩ = some x0 ∧ w.cell? ⟨b, 1, none⟩ = some x1 ∧ (∀ o, w.frozen? ⟨b, o, none⟩ = false) :=
  ⟨by simp [World.cell?, h], by simp [World.cell?, h], fun o => by simp [World.frozen?, h]⟩
theorem owns_sl {w : World} {B n : Nat} {v : Value} {xs : List Value} (h : w.ownsRow B 5 1 v n xs) : ∃ s k, v = .slice s n k ∧ k ≤ 9223372036854775807 := by
  rcases h.2 with ⟨h1, h2⟩ | ⟨g, cap, cur, h1, _, _, _, h3, _⟩
  · exact ⟨none, 0, by rw [h1, h2], by omega⟩
  · exact ⟨_, cap, h1, by unfold maxLen at h3; omega⟩
theorem ops_at {S : Nat → Prop} {w : World} {g o : Nat} {P : List Op1} (h : OpsS S w (some ⟨g, o, none⟩) P) (k : Nat) (p : Op1) (hp : P[k]? = some p) :
    w.cell? ⟨g, o + k * 5, none⟩ = some (.int .i64 p.kind) ∧ w.cell? ⟨g, o + k * 5 + 1, none⟩ = some (.int .i64 p.which) ∧ w.cell? ⟨g, o + k * 5 + 2, none⟩ = some (.int .i64 p.m) ∧ w.cell? ⟨g, o + k * 5 + 3, none⟩ = some (.int .u64 (p.n : Int)) ∧ w.cell? ⟨g, o + k * 5 + 4, none⟩ = some (.slice p.bp p.bl p.bc) := by
  rcases h.lie with h0 | ⟨g', o', e, _, _, hc⟩
  · subst h0; simp at hp
  · cases e; exact hc k p hp

set_option maxRecDepth 100000 in
set_option maxHeartbeats 400000 in
theorem end_q (w : World) (b h : Nat) (xs : List Nat) (a f : Nat) (hr : Rd w b h xs a f) :
    Calls Try.prog 28 #[.pointer (some ⟨b, 0, none⟩)] w fun e w' => e = .returned (.int .i64 (pEnd xs.length a f : Nat)) ∧ ∃ q, w' = w.drewN q := by
  obtain ⟨q0, q1, q2, qf⟩ := blk3 hr.blk
  have HR := hide hr
  have h1 := hr.le
  have h2 := hr.len
  clear hr
  by_cases hf : f ≠ 0
  · rw [pEnd, if_pos hf]
    have hb : ((f : Int) == 0) = false := by simp; omega
    go_enter Try.func28, Try.ntmps28
    go_wp2
    go_ret
    exact ⟨rfl, 0, rfl⟩
  · obtain rfl : f = 0 := by omega
    rw [pEnd, if_neg hf]
    clear hf
    by_cases hlt : a < xs.length
    · rw [if_pos hlt]
      have h3 : (0 : Int) < ((xs.length - a : Nat) : Int) := by omega
      go_enter Try.func28, Try.ntmps28
      go_wp2_with fail
      refine (left_any _ b h xs a 0 HR.out).mono ?_
      rintro e w' ⟨rfl, rfl⟩
      go_wp2
      go_ret
      exact ⟨rfl, 1, rfl⟩
    · rw [if_neg hlt]
      have h3 : ¬ (0 : Int) < ((xs.length - a : Nat) : Int) := by omega
      go_enter Try.func28, Try.ntmps28
      go_wp2_with fail
      refine (left_any _ b h xs a 0 HR.out).mono ?_
      rintro e w' ⟨rfl, rfl⟩
      go_wp2
      go_ret
      exact ⟨rfl, 1, rfl⟩

set_option maxRecDepth 100000 in
set_option maxHeartbeats 400000 in
theorem eend_q (w : World) (b : Nat) (sp : Option Addr) (c : Nat) (xs : List Nat) (a f : Nat) (hr : Ey w b sp c xs a f) :
    Calls Try.prog 29 #[.pointer (some ⟨b, 0, none⟩)] w fun e w' => e = .returned (.int .i64 (pEnd xs.length a f : Nat)) ∧ ∃ q, w' = w.drewN q := by
  obtain ⟨q0, q1, q2, qf⟩ := blk3 hr.blk
  have HR := hide hr
  have h1 := hr.le
  have h2 := hr.len
  clear hr
  by_cases hf : f ≠ 0
  · rw [pEnd, if_pos hf]
    have hb : ((f : Int) == 0) = false := by simp; omega
    go_enter Try.func29, Try.ntmps29
    go_wp2
    go_ret
    exact ⟨rfl, 0, rfl⟩
  · obtain rfl : f = 0 := by omega
    rw [pEnd, if_neg hf]
    clear hf
    by_cases hlt : a < xs.length
    · rw [if_pos hlt]
      have h3 : (0 : Int) < ((xs.length - a : Nat) : Int) := by omega
      go_enter Try.func29, Try.ntmps29
      go_wp2_with fail
      refine (eleft_any _ b sp c xs a 0 HR.out).mono ?_
      rintro e w' ⟨rfl, rfl⟩
      go_wp2
      go_ret
      exact ⟨rfl, 1, rfl⟩
    · rw [if_neg hlt]
      have h3 : ¬ (0 : Int) < ((xs.length - a : Nat) : Int) := by omega
      go_enter Try.func29, Try.ntmps29
      go_wp2_with fail
      refine (eleft_any _ b sp c xs a 0 HR.out).mono ?_
      rintro e w' ⟨rfl, rfl⟩
      go_wp2
      go_ret
      exact ⟨rfl, 1, rfl⟩

/-- The document's Reader, new. -/
theorem ey_new {w : World} {B m k : Nat} {s : Option Addr} {xs : List Nat} (hm : xs.length = m) (hml : m ≤ 140737488351232) (hs : ∀ x ∈ xs, x < 256) (h : w.ownsRow B 5 1 (.slice s m k) m (vals xs)) (hk : k ≤ 9223372036854775807) :
    Ey (w.alloc (.cells #[.slice s m k, .int .i64 0, .int .i64 0] 56)) w.heap.size s k xs 0 0 := by
  have hform : (s = none ∧ k = 0 ∧ xs = []) ∨ ∃ g o, s = some ⟨g, o, none⟩ := by
    rcases h.2 with ⟨h1, h2⟩ | ⟨g', cap, cur, h1, _⟩
    · cases h1; exact Or.inl ⟨rfl, rfl, List.eq_nil_of_length_eq_zero (by omega)⟩
    · cases h1; exact Or.inr ⟨_, _, rfl⟩
  have hcap : m ≤ k := by
    rcases h.2 with ⟨h1, h2⟩ | ⟨g', cap, cur, h1, _, _, h3, _⟩
    · cases h1; omega
    · cases h1; exact h3
  refine ⟨?_, (owns_bytes h hs).below ((Below.refl _ _).alloc (Nat.le_refl _) _), hform, by omega, by omega, hk, Nat.zero_le _⟩
  rw [heap_alloc_new, hm]
  rfl

set_option maxRecDepth 100000 in
set_option maxHeartbeats 2000000 in
/-- A Reader over a list, held against the document's over the same bytes. -/
theorem doc_read (S : Nat → Prop) (w : World) (si sb po : Option Addr) (m ci cb lo co : Nat) (xs : List Nat) (ops : List Op1) (hm : xs.length = m) (hml : m ≤ 140737488351232) (hi : Bytes w si xs) (hb : Bytes w sb xs) (hlo : ops.length = lo) (hO : OpsS S w po ops) :
    Calls Try.prog 9 #[.slice si m ci, .slice sb m cb, .slice po lo co] w fun e w' => e = .returned (.bool true) ∧ Below w.heap.size w w' := by
  have HL := hide hm
  have HI := hide hi
  have HBb := hide hb
  have HLo := hide hlo
  have HOp := hide hO
  clear hm hi hb hlo hO
  go_enter Try.func9, Try.ntmps9
  go_wp2_with fail
  refine (read_any w si m ci xs HL.out (by omega) HI.out).mono ?_
  rintro e w1 ⟨rfl, hr1, hb1⟩
  have HR1 := hide hr1
  have HB1 := hide hb1
  clear hr1 hb1
  go_wp2_with fail
  refine (copy_any w1 sb m cb xs HL.out (HBb.out.below HB1.out) (by omega)).mono ?_
  rintro e w2 ⟨v2, rfl, hown2, hb2⟩
  obtain ⟨s2, k2, rfl, hk2⟩ := owns_sl hown2
  have HE2 := hide (ey_new HL.out hml HI.out.small hown2 hk2)
  have HD3 : Hid (Duo (w2.alloc (.cells #[.slice s2 m k2, .int .i64 0, .int .i64 0] 56)) (w.heap.size + 1) w.heap.size w2.heap.size s2 k2 xs 0 0) := ⟨(HR1.out.below hb2).below ((Below.refl _ _).alloc (Nat.le_refl _) _), HE2.out⟩
  have HB3 : Hid (Below w.heap.size w (w2.alloc (.cells #[.slice s2 m k2, .int .i64 0, .int .i64 0] 56))) := (HB1.out.trans (hb2.mono HB1.out.size)).alloc (Nat.le_trans HB1.out.size hb2.size) _
  have HLe : Hid (w.heap.size ≤ w2.heap.size) := Nat.le_trans HB1.out.size hb2.size
  clear hown2 hb2 HE2 HR1 HB1 hk2
  have HS : Hid (∀ k, (k = w.heap.size + 1 ∨ k = w2.heap.size) → w.heap.size ≤ k) := fun k hk => by have := HLe.out; omega
  clear HLe
  go_wp2
  generalize w2.alloc (.cells #[.slice s2 m k2, .int .i64 0, .int .i64 0] 56) = w3 at *
  generalize w2.heap.size = b2 at *
  generalize w.heap.size + 1 = b at *
  obtain ⟨h, hh⟩ : ∃ h, h = w.heap.size := ⟨_, rfl⟩
  rw [← hh] at HD3
  clear hh
  go_loopw [9] (fun i wr => ∃ k a f : Nat, k ≤ lo ∧ k ≤ 400 ∧ i = .int .i64 k ∧ Hid (Duo wr b h b2 s2 k2 xs a f) ∧ Hid (Below w.heap.size w wr)) (fun i _ => 400 - (intOf i).toNat)
  case atStart => exact ⟨0, 0, 0, Nat.zero_le _, Nat.zero_le _, rfl, HD3, HB3⟩
  case round =>
    clear HD3 HB3
    obtain ⟨k, a, f, hk, hk4, rfl, HD, HB⟩ := hrel
    by_cases hlt : k < lo ∧ k < 400
    · obtain ⟨hlt1, hlt2⟩ := hlt
      have hlp : k < ops.length := by rw [HLo.out]; exact hlt1
      obtain ⟨g, o, rfl⟩ : ∃ g o, po = some ⟨g, o, none⟩ := by
        rcases HOp.out.lie with h | ⟨g, o, e, _⟩
        · subst h; simp at hlp
        · exact ⟨g, o, e⟩
      have hop : ops[k]? = some (ops[k]'hlp) := List.getElem?_eq_getElem _
      have HOr := hide (HOp.out.kept (w' := wr) (fun k _ hlt => HB.out.block k hlt) HB.out.size)
      obtain ⟨d0, d1, d2, d3, d4⟩ := ops_at HOr.out k _ hop
      have hnum := hide (HOp.out.nums _ (List.mem_of_getElem? hop))
      generalize ops[k]'hlp = p at *
      clear hop HOr
      have l1' : (k : Int) < (lo : Int) := by omega
      have l2' : (0 : Int) ≤ (k : Int) := by omega
      have l3' : (k : Int) < 400 := by omega
      go_wp2_with fail
      refine (reads_any wr b h b2 s2 k2 xs a f p HD.out hnum.out.m2 hnum.out.n2).mono ?_
      rintro e w5 ⟨rfl, a5, f5, hd5, hk5⟩
      have HD5 := hide hd5
      have HB5 : Hid (Below w.heap.size w w5) := hk5.below HB.out HB.out.size HS.out
      clear hd5 hk5 d0 d1 d2 d3 d4
      go_wp2
      go_roundw
      case rel => exact ⟨k + 1, a5, f5, by omega, by omega, by go_num, HD5, HB5⟩
      case measure => simp [intOf]; omega
    · obtain ⟨q0, q1, q2, qf⟩ := blk3 HD.out.ey.blk
      have h4 := HD.out.rd.le
      have hwl : IntKind.i64.wrap ((m : Int) - (a : Int)) = ((xs.length - a : Nat) : Int) := by
        have := HL.out
        rw [IntKind.wrap_i64]; omega
      have HC1 := hide (fun q => at_any (wr.drewN q) b h xs a f (HD.out.rd.below (bad_drews wr q)))
      have HC2 : Hid (∀ q, Calls Try.prog 23 #[.pointer (some ⟨b, 0, none⟩)] (wr.drewN q) fun e w' => e = .returned (.int .i64 ((xs.length - a : Nat) : Int)) ∧ ∃ m, w' = (wr.drewN q).drewN m) := fun q => (left_any _ b h xs a f (HD.out.rd.below (bad_drews wr q))).mono (by
        rintro e w' ⟨rfl, rfl⟩
        exact ⟨rfl, 1, rfl⟩)
      have HC3 := hide (fun q => end_q (wr.drewN q) b h xs a f (HD.out.rd.below (bad_drews wr q)))
      have HC4 := hide (fun q => eend_q (wr.drewN q) b2 s2 k2 xs a f (HD.out.ey.below (bad_drews wr q)))
      have HC5 := hide num_any
      have HBl : Hid (∀ q, Below w.heap.size w (wr.drewN q)) := fun q => below_draws2 HB.out q
      generalize pEnd xs.length a f = Z at *
      clear h4
      generalize xs.length - a = L at *
      have hend : ((k : Int) < (lo : Int) ∧ ¬ (k : Int) < 400) ∨ ¬ (k : Int) < (lo : Int) := by omega
      rcases hend with ⟨t1, t2⟩ | t1
      all_goals
        go_wp2
        go_quiet (first
          | (go_at_call 26; exact Calls.quiet_of_same (HC1.out _))
          | (go_at_call 23; exact Calls.quiet_of (HC2.out _))
          | (go_at_call 28; exact Calls.quiet_of (HC3.out _))
          | (go_at_call 29; exact Calls.quiet_of (HC4.out _))
          | (go_at_call 27; exact Calls.quiet_of_same (HC5.out _ _)))
        go_wp2
        go_ret
        exact ⟨by simp, HBl.out nq⟩

end Go.Proofs.Ytlnldipiofddkab
