import Derived.Test.YtlnldipiofddkaaTurn3
namespace Go.Proofs.Ytlnldipiofddkaa
open Go.RowKit

theorem ops_at {S : Nat → Prop} {w : World} {g o : Nat} {P : List Op1} (h : OpsS S w (some ⟨g, o, none⟩) P) (k : Nat) (p : Op1) (hp : P[k]? = some p) :
    w.cell? ⟨g, o + k * 5, none⟩ = some (.int .i64 p.kind) ∧ w.cell? ⟨g, o + k * 5 + 1, none⟩ = some (.int .i64 p.which) ∧ w.cell? ⟨g, o + k * 5 + 2, none⟩ = some (.int .i64 p.m) ∧ w.cell? ⟨g, o + k * 5 + 3, none⟩ = some (.int .u64 (p.n : Int)) ∧ w.cell? ⟨g, o + k * 5 + 4, none⟩ = some (.slice p.bp p.bl p.bc) := by
  rcases h.lie with h0 | ⟨g', o', e, _, _, hc⟩
  · subst h0; simp at hp
  · cases e; exact hc k p hp

/-- The state behind k steps of writing. -/
structure WState (w w2 wn : World) (N : Nat) (S : Nat → Prop) (sq : Option Addr) (P : List Op1) (v : Value) (ws : List Nat) : Prop where
  wr : Wr wn (N + 1) v ws
  ops : OpsS S wn sq P
  row : ∀ g, v.ownBlock = some g → w2.heap.size ≤ g
  below : Below N w wn
  size : w2.heap.size ≤ wn.heap.size

theorem WState.next {w w2 wr w' : World} {N : Nat} {S : Nat → Prop} {sq : Option Addr} {P : List Op1} {v : Value} {ws new : List Nat} (h : WState w w2 wr N S sq P v ws) (hS : ∀ k, S k → k ≠ N + 1 ∧ k < w2.heap.size) (hN : N ≤ w2.heap.size) (hl : Laid wr w' (N + 1) v ws new) :
    ∃ v', WState w w2 w' N S sq P v' (ws ++ new) := by
  obtain ⟨v', h1, h2, h3⟩ := hl
  refine ⟨v', h1, h.ops.kept (fun k hk hlt => h3.block k hlt (hS k hk).1 (fun e => by have := h.row k e.symm; have := (hS k hk).2; omega)) h3.size, ?_, h3.below h.below (by omega) (by have := h.size; omega) (fun g e => by have := h.row g e; omega), Nat.le_trans h.size h3.size⟩
  intro g e
  rcases h2 with e2 | ⟨g', e2, hg'⟩
  · exact h.row g (e2.symm.trans e)
  · rw [e2] at e; cases e; have := h.size; omega

/-- The state behind k steps of reading. -/
structure RState (w w2 wr : World) (N : Nat) (S : Nat → Prop) (sq : Option Addr) (P : List Op1) (b h : Nat) (xs : List Nat) (B : Nat) (bs : List Nat) (a f : Nat) : Prop where
  rd : Rd wr b h xs a f
  ops : OpsS S wr sq P
  out : wr.heap[B]? = some (.cells (vals bs).toArray 5 (0, 0))
  below : Below N w wr
  bB : B ≠ b
  bN : w2.heap.size ≤ b
  size : w2.heap.size ≤ wr.heap.size

theorem RState.next {w w2 wr w' : World} {N : Nat} {S : Nat → Prop} {sq : Option Addr} {P : List Op1} {b h : Nat} {xs : List Nat} {B : Nat} {bs : List Nat} {a f a' f' : Nat} (r : RState w w2 wr N S sq P b h xs B bs a f) (hS : ∀ k, S k → k ≠ N + 1 ∧ k < w2.heap.size) (hN : N ≤ w2.heap.size) (hr : Rd w' b h xs a' f') (hb : But b wr w') :
    RState w w2 w' N S sq P b h xs B bs a' f' :=
  ⟨hr, r.ops.kept (fun k hk hlt => hb.block k hlt (by have := (hS k hk).2; have := r.bN; omega)) hb.size, (hb.block B (lt_of_block r.out) r.bB).trans r.out, hb.below r.below (by have := r.bN; omega) (by have := r.size; omega), r.bB, r.bN, Nat.le_trans r.size hb.size⟩
theorem RState.on {w w2 wr w' : World} {N : Nat} {S : Nat → Prop} {sq : Option Addr} {P : List Op1} {b h : Nat} {xs : List Nat} {B : Nat} {bs : List Nat} {a f : Nat} (r : RState w w2 wr N S sq P b h xs B bs a f) (hS : ∀ k, S k → k ≠ N + 1 ∧ k < w2.heap.size) (hN : N ≤ w2.heap.size) (hb : Below wr.heap.size wr w') :
    RState w w2 w' N S sq P b h xs B bs a f := r.next hS hN (r.rd.below hb) (but_of hb b)

set_option maxRecDepth 100000 in
set_option maxHeartbeats 4000000 in
theorem turns_walk (w : World) (p0 p1 po : Option Addr) (l0 c0 l1 c1 lo co : Nat) (ops : List Op1) (hlo : ops.length = lo) (hlo2 : lo ≤ 140737488351232) (hO : OpsIn w po ops) :
    Calls Try.prog 6 #[.agg #[.slice p0 l0 c0, .slice p1 l1 c1, .slice po lo co]] w fun e w' => e = .returned (.bool true) ∧ Below w.heap.size w w' := by
  have HPl := hide (played_any (fun k => k < w.heap.size) ((w.alloc (.cells #[.slice p0 l0 c0, .slice p1 l1 c1, .slice po lo co] 26)).alloc (.cells #[.slice none 0 0] 89)) po lo co ops hlo hlo2 (hO.s.kept (fun k hk _ => by rw [Below.heap_alloc _ _ _ (by simp; omega), Below.heap_alloc _ _ _ hk]) (by simp; omega)))
  have HP4 : Hid ((playsF 4194304 (ops.take 400)).length ≤ 400) := by show _ ≤ _; rw [plays_length, List.length_take]; omega
  have HPs := hide (plays_sum (ops.take 400) 4194304)
  generalize playsF 4194304 (ops.take 400) = P at *
  clear hO hlo
  go_enter Try.func6, Try.ntmps6
  go_wp2_with fail
  refine (new_any _).mono ?_
  rintro e w1 ⟨rfl, rfl⟩
  go_wp2_with fail
  refine HPl.out.mono ?_
  rintro e w2 ⟨sq, cc, rfl, hO2, hb2⟩
  clear HPl
  have hs2 : w.heap.size + 1 + 1 ≤ w2.heap.size := by have := hb2.size; simp at this; omega
  have hP4 : P.length ≤ 400 := HP4.out
  have HNu : Hid (∀ o ∈ P, o.Nums) := hO2.nums
  have HSm : Hid (∀ x ∈ all P, x < 256) := all_small P hO2.nums (fun o ho => (hO2.bytes o ho).small)
  have HS : Hid (∀ k, ((k < w.heap.size ∨ w.heap.size + 1 + 1 ≤ k) ∧ k < w2.heap.size) → k ≠ w.heap.size + 1 ∧ k < w2.heap.size) := fun k hk => ⟨by omega, hk.2⟩
  have HW2 : Hid (WState w w2 w2 w.heap.size (fun k => (k < w.heap.size ∨ w.heap.size + 1 + 1 ≤ k) ∧ k < w2.heap.size) sq P (.slice none 0 0) []) := by
    refine ⟨?_, ?_, fun g e => by simp [Value.ownBlock] at e, ?_, Nat.le_refl _⟩
    · have h := (new_wr (w.alloc (.cells #[.slice p0 l0 c0, .slice p1 l1 c1, .slice po lo co] 26))).below hb2
      simpa using h
    · refine ⟨hO2.nums, fun o ho => (hO2.bytes o ho).imp (fun k hk h => ⟨by simpa using h, hk⟩), ?_⟩
      rcases hO2.lie with h | ⟨g, o, e, hS, hg, hc⟩
      · exact Or.inl h
      · exact Or.inr ⟨g, o, e, ⟨by simpa using hS, hg⟩, hg, hc⟩
    · exact (((Below.refl _ _).alloc (Nat.le_refl _) _).alloc (by simp) _).trans (hb2.mono (by simp; omega))
  clear hO2 hb2
  have hN2 : w.heap.size ≤ w2.heap.size := by omega
  go_wp2_with fail
  refine (wu8_any _ _ _ [] 7 HW2.out.wr (by omega) (by simp)).mono ?_
  rintro e w3 ⟨rfl, hl3⟩
  obtain ⟨v3, hW3⟩ := HW2.out.next HS.out hN2 hl3
  rw [List.nil_append] at hW3
  have HW3 := hide hW3
  clear hl3 hW3 HW2
  go_wp2
  go_loopw [5] (fun i wr => ∃ (k : Nat) (v : Value), k ≤ P.length ∧ i = .int .i64 k ∧ Hid (WState w w2 wr w.heap.size (fun k => (k < w.heap.size ∨ w.heap.size + 1 + 1 ≤ k) ∧ k < w2.heap.size) sq P v (pre P k))) (fun i _ => P.length - (intOf i).toNat)
  case atStart => exact ⟨0, v3, Nat.zero_le _, rfl, by simpa [pre] using HW3⟩
  case round =>
    obtain ⟨k, v, hk, rfl, HW⟩ := hrel
    clear HW3
    by_cases hlt : k < P.length
    · obtain ⟨g, o, rfl⟩ : ∃ g o, sq = some ⟨g, o, none⟩ := by
        rcases HW.out.ops.lie with h | ⟨g, o, e, _⟩
        · subst h; simp at hlt
        · exact ⟨g, o, e⟩
      have hop : P[k]? = some (P[k]'hlt) := List.getElem?_eq_getElem _
      obtain ⟨d0, d1, d2, d3, d4⟩ := ops_at HW.out.ops k _ hop
      have hmem := hide (List.mem_of_getElem? hop)
      have HPre := hide (pre_succ P k hlt)
      have hpl := pre_len P HNu.out hP4 HPs.out k
      have hbl := bl_le P HPs.out _ hmem.out
      generalize P[k]'hlt = p at *
      clear hop
      go_wp2_with fail
      refine (lays_any _ _ _ v (pre P k) p HW.out.wr (HNu.out p hmem.out) (HW.out.ops.bytes p hmem.out) (fun g hg => ⟨(HS.out g hg).1, fun e => by have := HW.out.row g e.symm; have := (HS.out g hg).2; omega⟩) (by omega)).mono ?_
      rintro e w4 ⟨rfl, hl4⟩
      obtain ⟨v4, hW4⟩ := HW.out.next HS.out hN2 hl4
      rw [← HPre.out] at hW4
      have HW4 := hide hW4
      clear hl4 hW4 HW d0 d1 d2 d3 d4
      go_wp2
      go_roundw
      case rel => exact ⟨k + 1, v4, by omega, by go_num, HW4⟩
      case measure => simp [intOf]; omega
    · obtain rfl : k = P.length := by omega
      have HW' : Hid (WState w w2 wr w.heap.size (fun k => (k < w.heap.size ∨ w.heap.size + 1 + 1 ≤ k) ∧ k < w2.heap.size) sq P v (all P)) := HW
      have hpl : (all P).length ≤ 4200000 := pre_len P HNu.out hP4 HPs.out P.length
      have hpos : 0 < (all P).length := by have := pre_le P 0; simp [pre, beOf] at this; omega
      obtain ⟨U, hT⟩ : ∃ U, (all P).length = U + 1 := ⟨(all P).length - 1, by omega⟩
      have HT := hide hT
      rw [hT] at hpl hpos
      clear HW hT
      go_wp2_with fail
      refine (out_any _ _ v (all P) HW'.out.wr (by rw [HT.out]; omega)).mono ?_
      rintro e w5 ⟨rfl, rfl⟩
      rw [HT.out]
      have HX : Hid (Bytes (wr.alloc (.cells (vals (all P)).toArray 5)) (some ⟨wr.heap.size, 0, none⟩) (all P)) := Mine.bytes (B := 0) (Or.inr ⟨wr.heap.size, rfl, Nat.zero_le _, heap_alloc_new _ _⟩) HSm.out
      go_wp2_with fail
      refine (read_any _ _ (U + 1) (U + 1) (all P) HT.out (by omega) HX.out).mono ?_
      rintro e w6 ⟨rfl, hr6, hb6⟩
      have HA5 : Hid (Below wr.heap.size wr (wr.alloc (.cells (vals (all P)).toArray 5))) := (Below.refl _ _).alloc (Nat.le_refl _) _
      have HA6 : Hid (Below wr.heap.size wr w6) := HA5.out.trans (hb6.mono (by simp))
      have HR6 : Hid (RState w w2 w6 w.heap.size (fun k => (k < w.heap.size ∨ w.heap.size + 1 + 1 ≤ k) ∧ k < w2.heap.size) sq P (wr.heap.size + 1 + 1) (wr.heap.size + 1) (all P) wr.heap.size (all P) 0 0) :=
        ⟨by simpa using hr6, HW'.out.ops.kept (fun k _ hlt => HA6.out.block k hlt) HA6.out.size, (hb6.block wr.heap.size (by simp)).trans (heap_alloc_new _ _), HW'.out.below.trans (HA6.out.mono (by have := HW'.out.size; omega)), by omega, by have := HW'.out.size; omega, by have := HW'.out.size; have := HA6.out.size; omega⟩
      have HWr6 := hide (HW'.out.wr.below HA6.out)
      clear hr6 hb6 HA5 HA6 HX
      go_wp2_with fail
      refine (wlen_any _ _ v (all P) HWr6.out).mono ?_
      rintro e w7 ⟨rfl, rfl⟩
      rw [HT.out]
      have hz : ((U : Int) + 1 == 0) = false := beq_eq_false_iff_ne.2 (by omega)
      have HU := hide (u8_any w7 _ _ (all P) 0 0 HR6.out.rd)
      rw [first_ok] at HU
      go_wp2_with fail
      refine HU.out.mono ?_
      rintro e w8 ⟨rfl, hr8, hb8⟩
      have HR8 := hide (HR6.out.next HS.out hN2 hr8 hb8)
      clear hr8 hb8 HR6 HU HWr6 HW'
      generalize wr.heap.size = B at *
      go_wp2
      go_loopw [8] (fun i wx => ∃ k : Nat, k ≤ P.length ∧ i = .int .i64 k ∧ Hid (RState w w2 wx w.heap.size (fun k => (k < w.heap.size ∨ w.heap.size + 1 + 1 ≤ k) ∧ k < w2.heap.size) sq P (B + 1 + 1) (B + 1) (all P) B (all P) (pre P k).length 0)) (fun i _ => P.length - (intOf i).toNat)
      case atStart => exact ⟨0, Nat.zero_le _, rfl, by simpa [pre, beOf] using HR8⟩
      case round =>
        obtain ⟨k, hk, rfl, HR⟩ := hrel
        clear HR8
        by_cases hlt : k < P.length
        · obtain ⟨g, o, rfl⟩ : ∃ g o, sq = some ⟨g, o, none⟩ := by
            rcases HR.out.ops.lie with h | ⟨g, o, e, _⟩
            · subst h; simp at hlt
            · exact ⟨g, o, e⟩
          have hop : P[k]? = some (P[k]'hlt) := List.getElem?_eq_getElem _
          obtain ⟨d0, d1, d2, d3, d4⟩ := ops_at HR.out.ops k _ hop
          have hmem := hide (List.mem_of_getElem? hop)
          have HStep := hide (step_ok P k hlt HNu.out)
          generalize P[k]'hlt = p at *
          clear hop
          go_wp2_with fail
          refine (back_any _ _ _ (all P) _ 0 p HR.out.rd (HNu.out p hmem.out) (HR.out.ops.bytes p hmem.out).bytes (fun g o' e hp => by
            rcases (HR.out.ops.bytes p hmem.out).lie with h | ⟨g', o2, e', hS', _⟩
            · have := (HNu.out p hmem.out).len; rw [h] at this; simp at this; omega
            · rw [e'] at e; cases e; have := HR.out.bN; have := (HS.out g hS').2; omega)).mono ?_
          rintro e w9 ⟨r, rfl, hsame, hr9, hb9⟩
          have hr := hsame HStep.out.2
          subst hr
          have HR9 := hide (HR.out.next HS.out hN2 hr9 hb9)
          rw [HStep.out.1] at HR9
          clear hr9 hb9 hsame HR d0 d1 d2 d3 d4 HStep
          go_wp2_with fail
          refine (fault_any _ _ _ (all P) _ _ HR9.out.rd).mono ?_
          rintro e w10 ⟨rfl, rfl⟩
          go_wp2_with fail
          refine (num_any _ _).mono ?_
          rintro e w11 ⟨rfl, rfl⟩
          go_wp2
          go_roundw
          case rel => exact ⟨k + 1, by omega, by go_num, HR9⟩
          case measure => simp [intOf]; omega
        · obtain rfl : k = P.length := by omega
          have HR' : Hid (RState w w2 wr w.heap.size (fun k => (k < w.heap.size ∨ w.heap.size + 1 + 1 ≤ k) ∧ k < w2.heap.size) sq P (B + 1 + 1) (B + 1) (all P) B (all P) (U + 1) 0) := by
            have := HR.out
            rw [show (pre P P.length).length = U + 1 from HT.out] at this
            exact this
          clear HR
          have hE : pEnd (all P).length (U + 1) 0 = 0 := by rw [HT.out]; simp [pEnd]
          have HE := hide (end_any _ _ _ (all P) (U + 1) 0 HR'.out.rd)
          rw [hE] at HE
          have hLf : (all P).length - (U + 1) = 0 := by rw [HT.out]; omega
          go_wp2_with fail
          refine HE.out.mono ?_
          rintro e w12 ⟨rfl, hb12⟩
          have HR12 := hide (HR'.out.on HS.out hN2 hb12)
          clear hb12 HR' HE
          go_wp2_with fail
          refine (num_any _ _).mono ?_
          rintro e w13 ⟨rfl, rfl⟩
          go_wp2_with fail
          refine (left_any _ _ _ (all P) _ _ HR12.out.rd).mono ?_
          rintro e w14 ⟨rfl, rfl⟩
          rw [hLf]
          have HR14 := hide (HR12.out.on HS.out hN2 (Below.refl _ _).drew)
          clear HR12
          go_wp2_with fail
          refine (at_any _ _ _ (all P) _ _ HR14.out.rd).mono ?_
          rintro e w15 ⟨rfl, rfl⟩
          have HX : Hid (Bytes w13.drew (some ⟨B, 0, none⟩) ((all P).dropLast)) := by
            have t := (Mine.bytes (B := 0) (Or.inr ⟨B, rfl, Nat.zero_le _, HR14.out.out⟩) HSm.out).take ((all P).length - 1)
            rw [← List.dropLast_eq_take] at t
            exact t
          have HDl : Hid ((all P).dropLast.length = U) := by show _ = _; rw [List.length_dropLast, HT.out]; omega
          go_wp2_with fail
          refine (read_any _ _ U (U + 1) ((all P).dropLast) HDl.out (by omega) HX.out).mono ?_
          rintro e w16 ⟨rfl, hr16, hb16⟩
          have HR16 : Hid (RState w w2 w16 w.heap.size (fun k => (k < w.heap.size ∨ w.heap.size + 1 + 1 ≤ k) ∧ k < w2.heap.size) sq P (w13.drew.heap.size + 1) w13.drew.heap.size ((all P).dropLast) B (all P) 0 0) :=
            ⟨hr16, HR14.out.ops.kept (fun k _ hlt => hb16.block k hlt) hb16.size, (hb16.block B (lt_of_block HR14.out.out)).trans HR14.out.out, HR14.out.below.trans (hb16.mono (by have := HR14.out.size; omega)), by have := lt_of_block HR14.out.out; omega, by have := HR14.out.size; omega, Nat.le_trans HR14.out.size hb16.size⟩
          clear hr16 hb16 HR14 HX
          generalize w13.drew.heap.size = D at *
          have HU := hide (u8_any w16 _ _ ((all P).dropLast) 0 0 HR16.out.rd)
          have HCut := hide (cut_first P)
          generalize rNext 0 0 (all P).dropLast 0 0 = x0 at *
          obtain ⟨it0, a0, f0⟩ := x0
          simp only at HCut
          go_wp2_with fail
          refine HU.out.mono ?_
          rintro e w17 ⟨rfl, hr17, hb17⟩
          have HR17 := hide (HR16.out.next HS.out hN2 hr17 hb17)
          clear hr17 hb17 HR16 HU
          go_wp2
          go_loopw [10] (fun i wx => ∃ k a f : Nat, k ≤ P.length ∧ i = .int .i64 k ∧ Hid (Cut P k a f) ∧ Hid (RState w w2 wx w.heap.size (fun k => (k < w.heap.size ∨ w.heap.size + 1 + 1 ≤ k) ∧ k < w2.heap.size) sq P (D + 1) D ((all P).dropLast) B (all P) a f)) (fun i _ => P.length - (intOf i).toNat)
          case atStart => exact ⟨0, a0, f0, Nat.zero_le _, rfl, HCut, HR17⟩
          case round =>
            obtain ⟨k, a, f, hk, rfl, HCt, HR⟩ := hrel
            clear HR17 HCut
            by_cases hlt : k < P.length
            · obtain ⟨g, o, rfl⟩ : ∃ g o, sq = some ⟨g, o, none⟩ := by
                rcases HR.out.ops.lie with h | ⟨g, o, e, _⟩
                · subst h; simp at hlt
                · exact ⟨g, o, e⟩
              have hop : P[k]? = some (P[k]'hlt) := List.getElem?_eq_getElem _
              obtain ⟨d0, d1, d2, d3, d4⟩ := ops_at HR.out.ops k _ hop
              have hmem := hide (List.mem_of_getElem? hop)
              have HStep := hide (cut_step P k a f hlt HNu.out HCt.out)
              generalize P[k]'hlt = p at *
              clear hop
              go_wp2_with fail
              refine (back_any _ _ _ ((all P).dropLast) a f p HR.out.rd (HNu.out p hmem.out) (HR.out.ops.bytes p hmem.out).bytes (fun g o' e hp => by
                rcases (HR.out.ops.bytes p hmem.out).lie with h | ⟨g', o2, e', hS', _⟩
                · have := (HNu.out p hmem.out).len; rw [h] at this; simp at this; omega
                · rw [e'] at e; cases e; have := HR.out.bN; have := (HS.out g hS').2; omega)).mono ?_
              rintro e w19 ⟨r, rfl, _, hr19, hb19⟩
              have HR19 := hide (HR.out.next HS.out hN2 hr19 hb19)
              clear hr19 hb19 HR d0 d1 d2 d3 d4
              go_wp2
              go_roundw
              case rel => exact ⟨k + 1, _, _, by omega, by go_num, HStep, HR19⟩
              case measure => simp [intOf]; omega
            · obtain rfl : k = P.length := by omega
              have hf := cut_end P a f HCt.out
              subst hf
              go_wp2_with fail
              refine (fault_any _ _ _ ((all P).dropLast) _ _ HR.out.rd).mono ?_
              rintro e w20 ⟨rfl, rfl⟩
              go_wp2_with fail
              refine (num_any _ _).mono ?_
              rintro e w21 ⟨rfl, rfl⟩
              go_wp2_with fail
              refine (end_bad _ _ _ ((all P).dropLast) _ 10 (by omega) HR.out.rd).mono ?_
              rintro e w22 ⟨rfl, hb22⟩
              have HR22 := hide (HR.out.on HS.out hN2 hb22)
              clear hb22 HR
              go_wp2_with fail
              refine (num_any _ _).mono ?_
              rintro e w23 ⟨rfl, rfl⟩
              go_wp2
              go_ret
              exact ⟨rfl, HR22.out.below⟩

end Go.Proofs.Ytlnldipiofddkaa
