import Derived.Test.YtephfdnneplcnaaDoorLqH
namespace Go.Proofs.YtephfdnneplcnaaDoor
open Go.RowKit

theorem Onl.but {b : Nat} {w w' : World} (h : Onl b w w') : C.But b w w' := ⟨h.os, h.tape, h.output, by rw [h.size]; exact Nat.le_refl _, fun k _ hk => h.block k hk⟩
structure Half (L : Lk) : Prop where
  known : L.known = 1
  asked : L.asked = false
  ack : L.ack = false
structure Quiet (L : Lk) : Prop extends Half L where
  paced : L.paced = false
theorem Quiet.says {L : Lk} (h : Quiet L) : saysN L = false := by unfold saysN; rw [h.ack, h.asked, h.paced]; rfl
theorem Quiet.tick {L : Lk} (h : Quiet L) : tickN L = L := by
  unfold tickN tkL
  rw [h.says, h.paced]
  rfl
def owed (L : Lk) : Lk := { L with asked := true }
theorem owed_says (L : Lk) : saysN (owed L) = true := by unfold saysN owed; cases L.ack <;> rfl
theorem owed_known (L : Lk) : (owed L).known = L.known := rfl
/-- What a link that has said its word is like. -/
theorem said_half {L : Lk} (hs : saysN L = true) (hk : L.known = 1) : Half (tickN L) ∧ (tickN L).paced = L.paced := by
  have hp := tickN_same L
  refine ⟨⟨hp.2.2.2.2.1.trans hk, ?_, ?_⟩, hp.2.2.2.2.2.2.2⟩
  · unfold tickN; rw [if_pos hs]
  · unfold tickN; rw [if_pos hs]
theorem tick_flags {L : Lk} (hs : saysN L = true) : (tickN L).asked = false ∧ (tickN L).ack = false := by
  unfold tickN; rw [if_pos hs]; exact ⟨rfl, rfl⟩
theorem hearW_one (L : Lk) (y : Nat) (hk : L.known ≤ 1) : (hearW L 1 y).known = 1 ∧ (hearW L 1 y).paced = decide (y ≠ L.life) ∧ (hearW L 1 y).asked = L.asked ∧ ((hearW L 1 y).ack = false ∨ (hearW L 1 y).ack = L.ack) := by
  unfold hearW hear1
  split
  · exact ⟨rfl, rfl, rfl, Or.inl rfl⟩
  · refine ⟨?_, rfl, rfl, Or.inr rfl⟩
    show L.known = 1
    omega
/-- Both are asked for a word, and take their turn. -/
theorem owed_turn {A B : Lk} (ha : Wd A 0 5) (hb : Wd B 5 0) : Quiet (tA2 (owed A) (owed B)) ∧ Half (tickN (tB1 (owed A) (owed B))) ∧ (A.known = 1 → Quiet (tickN (tB1 (owed A) (owed B)))) := by
  have e1 : tB1 (owed A) (owed B) = hearW (owed B) 1 A.known := by unfold tB1; rw [if_pos (owed_says A)]; rfl
  obtain ⟨k1, k2, k3, _⟩ := hearW_one (owed B) A.known hb.known
  have s1 : saysN (tB1 (owed A) (owed B)) = true := by rw [e1]; unfold saysN; rw [k3]; show (_ || (true || _)) = true; cases (hearW (owed B) 1 A.known).ack <;> rfl
  obtain ⟨h1, h2⟩ := said_half s1 (by rw [e1]; exact k1)
  have e2 : tA2 (owed A) (owed B) = hearW (tickN (owed A)) 1 1 := by
    unfold tA2
    rw [if_pos s1]
    congr 1
    rw [e1]; exact k1
  have ht := (ha.owe).tick
  obtain ⟨m1, m2, m3, m4⟩ := hearW_one (tickN (owed A)) 1 ht.known
  obtain ⟨f1, f2⟩ := tick_flags (owed_says A)
  have hlf : (tickN (owed A)).life = 1 := ht.life
  refine ⟨⟨⟨by rw [e2]; exact m1, by rw [e2, m3]; exact f1, by rw [e2]; rcases m4 with q | q; exact q; rw [q]; exact f2⟩, by rw [e2, m2, hlf]; rfl⟩, h1, fun hk => ⟨h1, ?_⟩⟩
  rw [h2, e1, k2, hk]
  have : (owed B).life = 1 := hb.life
  rw [this]; rfl
theorem quiet_turn {A B : Lk} (ha : Quiet A) (hb : Quiet B) : tA2 A B = A ∧ tickN (tB1 A B) = B ∧ tB1 A B = B := by
  have e1 : tB1 A B = B := by unfold tB1; rw [ha.says]; rfl
  refine ⟨?_, by rw [e1]; exact hb.tick, e1⟩
  unfold tA2
  rw [e1, hb.says]
  exact ha.tick
theorem one_turn {A B : Lk} (ha : Quiet A) (hb : Quiet B) (wa : Wd A 0 5) : tB1 A (owed B) = owed B ∧ Quiet (tA2 A (owed B)) ∧ Quiet (tickN (owed B)) := by
  have e1 : tB1 A (owed B) = owed B := by unfold tB1; rw [ha.says]; rfl
  obtain ⟨h1, h2⟩ := said_half (owed_says B) hb.known
  refine ⟨e1, ?_, ⟨h1, h2.trans hb.paced⟩⟩
  have e2 : tA2 A (owed B) = hearW A 1 1 := by
    unfold tA2
    rw [e1, if_pos (owed_says B), ha.tick]
    congr 1
    exact hb.known
  obtain ⟨m1, m2, m3, m4⟩ := hearW_one A 1 wa.known
  rw [e2]
  exact ⟨⟨m1, m3.trans ha.asked, by rcases m4 with q | q; exact q; exact q.trans ha.ack⟩, by rw [m2, wa.life]; rfl⟩
section
variable {w wr : World} {pb b0 b1 W M : Nat} {A B : Lk} {sv : Value} {es : List Fe}
theorem owe0 (h : Qs w wr pb b0 b1 W M A B sv es) : Calls Tryd.prog 14 #[.pointer (some ⟨b0, 0, none⟩)] wr fun e w' => e = .returned (.tuple #[]) ∧ Qs w w' pb b0 b1 W M (owed A) B sv es :=
  (owe_any wr b0 A _ h.l0).mono fun _ _ ⟨h1, h2, h3⟩ => ⟨h1, h.side0 h2 h3.but h.a.owe⟩
theorem owe1 (h : Qs w wr pb b0 b1 W M A B sv es) : Calls Tryd.prog 14 #[.pointer (some ⟨b1, 0, none⟩)] wr fun e w' => e = .returned (.tuple #[]) ∧ Qs w w' pb b0 b1 W M A (owed B) sv es :=
  (owe_any wr b1 B _ h.l1).mono fun _ _ ⟨h1, h2, h3⟩ => ⟨h1, h.side1 h2 h3.but h.b.owe⟩
end
set_option maxRecDepth 100000 in
set_option maxHeartbeats 4000000 in
theorem quiet_all (w : World) (hT : C.Tab w) (win cap : Int) (sp : Option Addr) (l c : Nat) :
    Calls Tryd.prog 4 #[.agg #[.int .i64 win, .int .i64 cap, .slice sp l c]] w fun e w' => e = .returned (.bool true) ∧ Below w.heap.size w w' := by
  obtain ⟨w1, hw1⟩ : ∃ w1, w.alloc (.cells #[.int .i64 win, .int .i64 cap, .slice sp l c] 44) = w1 := ⟨_, rfl⟩
  have hb1 : Below w.heap.size w w1 := by rw [← hw1]; exact (Below.refl _ _).alloc (Nat.le_refl _) _
  have hk1 : w1.heap[w.heap.size]? = some (.cells #[.int .i64 win, .int .i64 cap, .slice sp l c] 44 (0, 0)) := by rw [← hw1]; exact heap_alloc_new _ _
  obtain ⟨x0, x1, x2, -⟩ := pblk3 hk1
  have HT1 := hide (hT.below hb1 hT.pos)
  have HP := hide (paired_any w1 win cap HT1.out)
  have HB1 := hide hb1
  have HW := hide hw1
  clear hw1 hb1 hk1 hT
  go_enter Tryd.func4, Tryd.ntmps4
  go_upto_region 1 with (fail)
  rw [HW.out]
  go_wp2_with fail
  refine HP.out.mono ?_
  rintro e w2 ⟨pb, b0, b1, W, M, rfl, hq2⟩
  have HQ2 := hide hq2
  clear hq2 HP x0 x1 x2
  go_wp2
  go_loopw [4] (fun iv w' => ∃ (k : Nat) (A B : Lk) (sv : Value) (es : List Fe), k ≤ 3 ∧ iv = .int .i64 (k : Int) ∧ Hid (Qs w1 w' pb b0 b1 W M A B sv es ∧ es.length ≤ 2 * k ∧ (1 ≤ k → Quiet A ∧ Half B) ∧ (2 ≤ k → Quiet B))) (fun iv _ => 3 - (intOf iv).toNat)
  case atStart => exact ⟨0, _, _, _, _, by omega, rfl, hide ⟨HQ2.out, by simp, fun h => by omega, fun h => by omega⟩⟩
  case round =>
  obtain ⟨k, A, B, sv, es, hk, rfl, HR⟩ := hrel
  clear HQ2
  by_cases hlt : k < 3
  · have i2 : (k : Int) < 3 := by omega
    obtain ⟨p0, p2, p3, p4, p5, p6, pf, hpb⟩ := HR.out.1.cells
    have HO := hide (owe0 HR.out.1)
    go_wp2_with fail
    refine HO.out.mono ?_
    rintro e w3 ⟨rfl, hq3⟩
    have HQ3 := hide hq3
    clear p0 p2 p3 p4 p5 p6 pf hpb hq3 HO
    obtain ⟨p0, p2, p3, p4, p5, p6, pf, hpb⟩ := HQ3.out.cells
    have HO := hide (owe1 HQ3.out)
    go_wp2_with fail
    refine HO.out.mono ?_
    rintro e w4 ⟨rfl, hq4⟩
    have HQ4 := hide hq4
    have HTn := hide (turn_any w1 w4 pb b0 b1 W M _ _ sv es hq4 (by have := HR.out.2.1; omega))
    clear p0 p2 p3 p4 p5 p6 pf hpb hq4 HO HQ3
    go_wp2_with fail
    refine HTn.out.mono ?_
    rintro e w5 ⟨rfl, sv', k0, k1, hq5, hs0, hs1⟩
    have hl0 := said_len hs0
    have hl1 := said_len hs1
    obtain ⟨t1, t2, t3⟩ := owed_turn HR.out.1.a HR.out.1.b
    have HE : Hid (∃ (A' B' : Lk) (sv : Value) (es : List Fe), Qs w1 w5 pb b0 b1 W M A' B' sv es ∧ es.length ≤ 2 * (k + 1) ∧ (1 ≤ k + 1 → Quiet A' ∧ Half B') ∧ (2 ≤ k + 1 → Quiet B')) := ⟨_, _, sv', _, hq5, by have := HR.out.2.1; simp only [List.length_append]; omega, fun _ => ⟨t1, t2⟩, fun h => t3 (HR.out.2.2.1 (by omega)).1.known⟩
    clear hq5 hs0 hs1 hl0 hl1 t1 t2 t3 HTn HQ4
    go_wp2
    obtain ⟨A', B', sv2, es2, he⟩ := HE.out
    exact ⟨⟨k + 1, A', B', sv2, es2, by omega, by go_num, he⟩, by simp [intOf]; omega⟩
  · obtain rfl : k = 3 := by omega
    have hqA : Quiet A := (HR.out.2.2.1 (by omega)).1
    have hqB : Quiet B := HR.out.2.2.2 (by omega)
    have HQA := hide hqA
    have HQB := hide hqB
    have HQ := hide HR.out.1
    have hes : es.length ≤ 6 := HR.out.2.1
    clear HR hqA hqB
    obtain ⟨sa, sc, rfl, hsl, hsc⟩ := HQ.out.form
    obtain ⟨p0, p2, p3, p4, p5, p6, pf, hpb⟩ := HQ.out.cells
    obtain ⟨el, hel⟩ : ∃ el, es.length = el := ⟨_, rfl⟩
    rw [hel] at p6 hes
    have HEl := hide hel
    clear hel hsl hsc
    have j3 : ¬ ((3 : Nat) : Int) < 3 := by omega
    go_wp2
    clear p0 p2 p3 p4 p5 p6 pf hpb
    go_loopw [6] (fun iv w' => ∃ (j : Nat) (sv : Value), j ≤ 40 ∧ iv = .int .i64 (j : Int) ∧ Hid (Qs w1 w' pb b0 b1 W M A B sv es)) (fun iv _ => 40 - (intOf iv).toNat)
    case atStart => exact ⟨0, _, by omega, rfl, HQ⟩
    case round =>
    obtain ⟨j, sv, hj, rfl, HJ⟩ := hrel
    clear HQ
    obtain ⟨e1, e2, e3⟩ := quiet_turn HQA.out HQB.out
    have HE3 := hide e3
    have HTn : ∀ w' sv, Hid (Qs w1 w' pb b0 b1 W M A B sv es → Calls Tryd.prog 15 #[.pointer (some ⟨pb, 0, none⟩)] w' fun e w'' => e = .returned (.bool true) ∧ ∃ sv', Qs w1 w'' pb b0 b1 W M A B sv' es) := fun w' sv => hide (fun hq => by
      refine (turn_any w1 w' pb b0 b1 W M A B sv es hq (by have := HEl.out; omega)).mono ?_
      rintro e w5 ⟨rfl, sv', k0, k1, hq5, hs0, hs1⟩
      rw [HE3.out] at hs1
      have z0 : k0 = [] := by
        rcases hs0 with ⟨_, h⟩ | ⟨h, _⟩
        · exact h
        · rw [HQA.out.says] at h; cases h
      have z1 : k1 = [] := by
        rcases hs1 with ⟨_, h⟩ | ⟨h, _⟩
        · exact h
        · rw [HQB.out.says] at h; cases h
      subst z0 z1
      rw [e1, e2] at hq5
      simp only [List.append_nil] at hq5
      exact ⟨rfl, sv', hq5⟩)
    clear e1 e2 e3
    by_cases hlt2 : j < 40
    · have i2 : (j : Int) < 40 := by omega
      have HT := hide ((HTn _ _).out HJ.out)
      go_wp2_with fail
      refine HT.out.mono ?_
      rintro e w3 ⟨rfl, sv3, hq3⟩
      obtain ⟨sa3, sc3, rfl, hsl3, hsc3⟩ := hq3.form
      have HQ3 := hide hq3
      obtain ⟨p0, p2, p3, p4, p5, p6, pf, hpb⟩ := hq3.cells
      rw [HEl.out] at p6
      clear hq3 HT hsl3 hsc3
      go_wp2
      exact ⟨⟨j + 1, _, by omega, by go_num, HQ3⟩, by simp [intOf]; omega⟩
    · obtain rfl : j = 40 := by omega
      have j4 : ¬ ((40 : Nat) : Int) < 40 := by omega
      obtain ⟨p0, p2, p3, p4, p5, p6, pf, hpb⟩ := HJ.out.cells
      have HO := hide (owe1 HJ.out)
      go_wp2_with fail
      refine HO.out.mono ?_
      rintro e w3 ⟨rfl, hq3⟩
      have HQ3 := hide hq3
      clear p0 p2 p3 p4 p5 p6 pf hpb hq3 HO HJ
      obtain ⟨p0, p2, p3, p4, p5, p6, pf, hpb⟩ := HQ3.out.cells
      have HO := hide (owe1 HQ3.out)
      go_wp2_with fail
      refine HO.out.mono ?_
      rintro e w4 ⟨rfl, hq4⟩
      have hoo : owed (owed B) = owed B := rfl
      rw [hoo] at hq4
      obtain ⟨o1, o2, o3⟩ := one_turn HQA.out HQB.out HQ3.out.a
      have HT := hide (turn_any w1 w4 pb b0 b1 W M _ _ sv es hq4 (by have := HEl.out; omega))
      have HO1 := hide o1
      have HO2 := hide o2
      have HO3 := hide o3
      clear p0 p2 p3 p4 p5 p6 pf hpb hq4 HO HQ3 hoo o1 o2 o3
      go_wp2_with fail
      refine HT.out.mono ?_
      rintro e w5 ⟨rfl, sv5, k0, k1, hq5, hs0, hs1⟩
      rw [HO1.out] at hs1 hq5
      have z0 : k0 = [] := by
        rcases hs0 with ⟨_, h⟩ | ⟨h, _⟩
        · exact h
        · rw [HQA.out.says] at h; cases h
      subst z0
      obtain ⟨sq, z1⟩ : ∃ sq, k1 = [⟨wfr 5 0 1, sq, 0⟩] := by
        rcases hs1 with ⟨h, _⟩ | ⟨_, sq, h⟩
        · rw [owed_says B] at h; cases h
        · refine ⟨sq, ?_⟩
          rw [h]
          have : (owed B).known = 1 := HQB.out.known
          rw [this]
      subst z1
      rw [List.append_nil] at hq5
      obtain ⟨g5, c5, hsv5, hc5, hcell⟩ := hq5.last
      subst hsv5
      rw [HEl.out] at hc5 hcell
      have HQ5 := hide hq5
      obtain ⟨p0, p2, p3, p4, p5, p6, pf, hpb⟩ := hq5.cells
      rw [HEl.out] at p6
      have q0 : w5.cell? ⟨g5, el * 7, none⟩ = some (.int .i64 5) := hcell 0 _ rfl
      have q1 : w5.cell? ⟨g5, el * 7 + 1, none⟩ = some (.int .i64 0) := hcell 1 _ rfl
      have q2 : w5.cell? ⟨g5, el * 7 + 2, none⟩ = some (.int .u64 1) := hcell 2 _ rfl
      have q3 : w5.cell? ⟨g5, el * 7 + 3, none⟩ = some (.int .u64 1) := hcell 3 _ rfl
      have q4 : w5.cell? ⟨g5, el * 7 + 4, none⟩ = some (.int .u64 0) := hcell 4 _ rfl
      have q5 : w5.cell? ⟨g5, el * 7 + 5, none⟩ = some (.int .u64 0) := hcell 5 _ rfl
      have q6 : w5.cell? ⟨g5, el * 7 + 6, none⟩ = some (.slice sq 0 0) := hcell 6 _ rfl
      have j0 : (0 : Int) ≤ (el : Int) := by omega
      have j1 : (el : Int) < (el : Int) + 1 := by omega
      have HEq : Hid (Calls Tryd.prog 11 #[.agg #[.int .i64 5, .int .i64 0, .int .u64 1, .int .u64 1, .int .u64 0, .int .u64 0, .slice sq 0 0], .agg #[.int .i64 5, .int .i64 0, .int .u64 1, .int .u64 1, .int .u64 0, .int .u64 0, .slice none 0 0]] w5 fun e w' => ∃ r, e = .returned (.bool r) ∧ (r = true ↔ wfr 5 0 1 = wfr 5 0 1) ∧ Below w5.heap.size w5 w') := eqfr_any w5 (wfr 5 0 1) (wfr 5 0 1) sq none 0 0 ⟨wfr_small 5 0 1, Or.inl rfl⟩ ⟨wfr_small 5 0 1, Or.inl rfl⟩ (by simp [wfr]) (by simp [wfr])
      clear hq5 hs0 hs1 hcell HT
      go_wp2_with fail
      refine HEq.out.mono ?_
      rintro e w6 ⟨r, rfl, hr, hb6⟩
      obtain rfl : r = true := hr.2 (by first | trivial | rfl)
      have HQ6 := hide (HQ5.out.below hb6)
      have hel9 : (es ++ [(⟨wfr 5 0 1, sq, 0⟩ : Fe)]).length ≤ 900 := by rw [List.length_append, HEl.out]; simp; omega
      have HT2 := hide (turn_any w1 w6 pb b0 b1 W M _ _ _ _ HQ6.out hel9)
      clear hr hb6 HEq p0 p2 p3 p4 p5 p6 pf hpb q0 q1 q2 q3 q4 q5 q6 hel9
      go_wp2_with fail
      refine HT2.out.mono ?_
      rintro e w7 ⟨rfl, sv7, k0, k1, hq7, hs0, hs1⟩
      obtain ⟨e1, e2, e3⟩ := quiet_turn HO2.out HO3.out
      rw [e3] at hs1
      have z0 : k0 = [] := by
        rcases hs0 with ⟨_, h⟩ | ⟨h, _⟩
        · exact h
        · rw [HO2.out.says] at h; cases h
      have z1 : k1 = [] := by
        rcases hs1 with ⟨_, h⟩ | ⟨h, _⟩
        · exact h
        · rw [HO3.out.says] at h; cases h
      subst z0 z1
      simp only [List.append_nil] at hq7
      obtain ⟨g7, c7, hsv7, hc7, -⟩ := hq7.last
      subst hsv7
      have HQ7 := hide hq7
      obtain ⟨p0, p2, p3, p4, p5, p6, pf, hpb⟩ := hq7.cells
      rw [HEl.out] at p6
      have HBg := hide (begun_any w7 hq7.tb)
      have hee : ((el : Int) + 1 == (el : Int) + 1) = true := by simp
      clear hq7 hs0 hs1 e1 e2 e3 HT2 hc7
      go_wp2_with fail
      refine HBg.out.mono ?_
      rintro e w8 ⟨rfl, hb8⟩
      have HB8 := hide (HB1.out.trans ((HQ7.out.bel.trans (hb8.mono HQ7.out.bel.size)).mono HB1.out.size))
      clear hb8 HBg
      go_wp2
      go_ret
      exact ⟨rfl, HB8.out⟩
end Go.Proofs.YtephfdnneplcnaaDoor
