import Derived.Test.YtecbidaljchmoaaRpZ
import Derived.Test.YtecbidaljchmoaaAppB0
import Derived.Deep.RegionWith
namespace Go.Proofs.Ytecbidaljchmoaa
open Go.RowKit

theorem later {G T : Prop} (h : Hid G → T) (g : G) : T := h (hide g)
theorem three_box {w : World} {K : Knd} {o b : Nat} {C A Z : Array Value} {ty : TypeId} (hb : w.heap[b]? = some (.cells C 48 (0, 0))) (hK : K b = (o, 0)) :
    ∃ w3, ((w.alloc (.cells A ty)).alloc (.cells Z ty)).alloc (.cells A ty) = w3 ∧ SeA w w3 (ext K w.heap.size (o, 99)) o b ty C A Z A ∧ Kp (fun _ => False) K (ext K w.heap.size (o, 99)) w w3 := by
  have hB : Below w.heap.size w (((w.alloc (.cells A ty)).alloc (.cells Z ty)).alloc (.cells A ty)) := (((Below.refl _ w).alloc (Nat.le_refl _) _).alloc (by simp) _).alloc (by simp; omega) _
  have hlt := lt_of_block hb
  refine ⟨_, rfl, ⟨(hB.block b hlt).trans hb, (ext_old K _ hlt).trans hK, ?_, ?_, ?_, ext_new K _ (Nat.le_refl _), ext_new K _ (by omega), ext_new K _ (by omega)⟩, kp_below hB _ K _⟩
  · rw [Below.heap_alloc _ _ _ (by simp; omega), Below.heap_alloc _ _ _ (by simp)]; exact heap_alloc_new _ _
  · rw [Below.heap_alloc _ _ _ (by simp)]
    have := heap_alloc_new (w.alloc (.cells A ty)) (.cells Z ty)
    simpa using this
  · have := heap_alloc_new ((w.alloc (.cells A ty)).alloc (.cells Z ty)) (.cells A ty)
    simpa using this
theorem x_put {w wr : World} {K : Knd} {o b : Nat} {ty : TypeId} {C A Z X : Array Value} (h : SeA w wr K o b ty C A Z X) (i : Nat) (hi : i < X.size) (v : Value) :
    ∃ w', wr.setCell ⟨w.heap.size + 1 + 1, i, none⟩ v = w' ∧ (∃ u, wr.cell? ⟨w.heap.size + 1 + 1, i, none⟩ = some u) ∧ wr.frozen? ⟨w.heap.size + 1 + 1, i, none⟩ = false ∧ SeA w w' K o b ty C A Z (X.setIfInBounds i v) ∧ Kp (fun q => q = (o, 99)) K K wr w' :=
  ⟨_, rfl, ⟨X[i], by rw [cell_of_row _ _ _ _ _ _ h.x]; exact Array.getElem?_eq_getElem hi⟩, frozen_of_row _ _ _ _ _ h.x, h.put i v, Kp.setCell (p := fun q => q = (o, 99)) (b := w.heap.size + 1 + 1) (Kp.refl _ _ _) (Or.inr h.kx) _ _⟩
theorem SeA.at {w wr : World} {K : Knd} {o b : Nat} {ty : TypeId} {C A Z X : Array Value} (h : SeA w wr K o b ty C A Z X) {j : Nat} {v : Value} (hv : C[j]? = some v) : wr.cell? ⟨b, j, none⟩ = some v := by rw [cell_of_row _ _ _ _ _ _ h.seat]; exact hv
theorem Kp.setRow {p : Nat × Nat → Prop} {K K' : Knd} {w w' : World} (h : Kp p K K' w w') {b : Nat} (hb : w.heap.size ≤ b ∨ p (K b)) (X : Array Value) : Kp p K K' w (w'.setRow b X) :=
  ⟨h.os, h.tape, h.output, by simpa using h.size, h.same, fun c hc hn => by
    rw [setRow_other w' _ _ X (by rintro rfl; rcases hb with e | e; exact absurd hc (by simpa using e); exact hn e)]; exact h.block c hc hn⟩
set_option linter.unusedSimpArgs false in
set_option maxRecDepth 100000 in
set_option maxHeartbeats 8000000 in
theorem seatAct_any (w : World) (K : Knd) (o b : Nat) (C : Array Value) (hb : w.heap[b]? = some (.cells C 48 (0, 0))) (hz : C.size = 17) (hK : K b = (o, 0)) (s0 : Slot w K o C 0 84 2) (s1 : Slot w K o C 1 84 2) (s2 : Slot w K o C 2 156 3) (s3 : Slot w K o C 3 111 3) (s4 : Slot w K o C 4 78 3) (a : Acd) (hok : AcdK w K o a) (A : Array Value) (hA : a.arr = A) :
    Calls Try.prog 29 #[.pointer (some ⟨b, 0, none⟩), .agg A] w fun e w' => ∃ (K' : Knd) (C' : Array Value) (d : Acd), e = .returned (.agg d.arr) ∧ d.d = a.d ∧ w'.heap[b]? = some (.cells C' 48 (0, 0)) ∧ C'.size = 17 ∧ (∀ j, 5 ≤ j → C'[j]? = C[j]?) ∧ AcRk w' K' o C' d ∧ Kp (fun q => q.1 = o ∧ q.2 ≤ 5) K K' w w' := by
  have HZ : Hid (A.size = 15) := by show _ = _; rw [← hA]; rfl
  have HO : Hid (A.all (·.oneCell') = true) := by show _ = _; rw [← hA]; exact a.ones
  obtain ⟨Z, hZ⟩ : ∃ Z : Array Value, #[.int .i64 0, .int .u64 0, .int .i64 0, .bool false, .slice none 0 0, .slice none 0 0, .slice none 0 0, .int .i64 0, .slice none 0 0, .int .i64 0, .int .i64 0, .int .i64 0, .int .i64 0, .int .u64 0, .slice none 0 0] = Z := ⟨_, rfl⟩
  have HZz : Hid (Z.size = 15) := by show _ = _; rw [← hZ]; rfl
  obtain ⟨w3, hw3, S3, P3⟩ := three_box (A := A) (Z := Z) (ty := 80) hb hK
  have ok3 := hok.kept P3 (fun q h => h.elim)
  have t03 := s0.kept P3 (fun h => h) rfl
  have t13 := s1.kept P3 (fun h => h) rfl
  have t23 := s2.kept P3 (fun h => h) rfl
  have t33 := s3.kept P3 (fun h => h) rfl
  have t43 := s4.kept P3 (fun h => h) rfl
  obtain ⟨K3, hK3⟩ : ∃ k, (ext K w.heap.size (o, 99)) = k := ⟨_, rfl⟩
  rw [hK3] at S3 ok3 t03 t13 t23 t33 t43  P3
  have D3 : Kp (fun _ => False) K3 K3 w3 w3.drew := (Kp.refl _ _ _).drew
  have e1S := S3
  replace S3 := S3.step D3 (fun h => h) S3.seat
  replace ok3 := ok3.kept D3 (fun q h => h.elim)
  replace t03 := t03.kept D3 (fun h => h) rfl
  replace t13 := t13.kept D3 (fun h => h) rfl
  replace t23 := t23.kept D3 (fun h => h) rfl
  replace t33 := t33.kept D3 (fun h => h) rfl
  replace t43 := t43.kept D3 (fun h => h) rfl
  obtain ⟨a1, n1, c1, y1, r1, R1⟩ := t13
  obtain ⟨d1, v1, hr1, hx1, hn1, hu1, hf1, hb4, Q14, P4, hv1⟩ := se_seg elt_line S3.seat S3.kb 1 a1 n1 c1 y1 r1 R1 a.other ok3.other.ok 37
  have e1 : w3.cell? ⟨b, 1, none⟩ = some (.slice a1 n1 c1) := by rw [cell_of_row _ _ _ _ _ _ e1S.seat]; exact r1
  clear e1S
  have l1 : w3.cell? ⟨w.heap.size, 8, none⟩ = some (.slice a.other.p a.other.n a.other.c) := by rw [← World.cell?_of_block (w := w3) (w' := w3.drew) rfl, cell_of_row _ _ _ _ _ _ S3.a, ← hA]; rfl
  have l1' : v1.cell? ⟨w.heap.size, 8, none⟩ = some (.slice a.other.p a.other.n a.other.c) := by rw [World.cell?_of_block (w := w3.drew) (hv1 _ (lt_of_block S3.a) (by rw [S3.ka]; simp))]; exact l1
  obtain ⟨w4, hw4⟩ : ∃ w', v1.setCell ⟨b, 1, none⟩ (.slice d1.p d1.n d1.c) = w' := ⟨_, rfl⟩
  obtain ⟨C4, hC4⟩ : ∃ c, C.setIfInBounds 1 (.slice d1.p d1.n d1.c) = c := ⟨_, rfl⟩
  rw [hw4, hC4] at hb4
  rw [hw4] at Q14 P4
  have hz4 : C4.size = 17 := by rw [← hC4, Array.size_setIfInBounds]; exact hz
  have g4 : ∀ i, 1 ≠ i → C4[i]? = C[i]? := fun i hi => by rw [← hC4]; exact Array.getElem?_setIfInBounds_ne hi
  have q14 : C4[1]? = some (.slice d1.p d1.n d1.c) := by rw [← hC4]; exact Array.getElem?_setIfInBounds_self_of_lt (by rw [hz]; omega)
  have S4 := S3.step P4 (by simp) hb4
  have ok4 := ok3.kept P4 (fun q h => by rcases h with rfl | rfl <;> rfl)
  have t04 := t03.kept P4 (by simp) (g4 0 (by omega))
  have t24 := t23.kept P4 (by simp) (g4 2 (by omega))
  have t34 := t33.kept P4 (by simp) (g4 3 (by omega))
  have t44 := t43.kept P4 (by simp) (g4 4 (by omega))
  obtain ⟨K4, hK4⟩ : ∃ k, (ext K3 w3.drew.heap.size (o, 1 + 1)) = k := ⟨_, rfl⟩
  rw [hK4] at S4 ok4 t04 t24 t34 t44 Q14 P4
  have D4 : Kp (fun _ => False) K4 K4 w4 w4.drew := (Kp.refl _ _ _).drew
  have e2S := S4
  replace S4 := S4.step D4 (fun h => h) S4.seat
  replace ok4 := ok4.kept D4 (fun q h => h.elim)
  replace t04 := t04.kept D4 (fun h => h) rfl
  replace t24 := t24.kept D4 (fun h => h) rfl
  replace t34 := t34.kept D4 (fun h => h) rfl
  replace t44 := t44.kept D4 (fun h => h) rfl
  replace Q14 := Q14.kept D4 (fun h => h)
  obtain ⟨a2, n2, c2, y2, r2, R2⟩ := t24
  obtain ⟨d2, v2, hr2, hx2, hn2, hu2, hf2, hb5, Q25, P5, hv2⟩ := se_seg elt_guard S4.seat S4.kb 2 a2 n2 c2 y2 r2 R2 a.guards ok4.guards.ok 38
  have e2 : w4.cell? ⟨b, 2, none⟩ = some (.slice a2 n2 c2) := by rw [cell_of_row _ _ _ _ _ _ e2S.seat]; exact r2
  clear e2S
  have l2 : w4.cell? ⟨w.heap.size, 5, none⟩ = some (.slice a.guards.p a.guards.n a.guards.c) := by rw [← World.cell?_of_block (w := w4) (w' := w4.drew) rfl, cell_of_row _ _ _ _ _ _ S4.a, ← hA]; rfl
  have l2' : v2.cell? ⟨w.heap.size, 5, none⟩ = some (.slice a.guards.p a.guards.n a.guards.c) := by rw [World.cell?_of_block (w := w4.drew) (hv2 _ (lt_of_block S4.a) (by rw [S4.ka]; simp))]; exact l2
  obtain ⟨w5, hw5⟩ : ∃ w', v2.setCell ⟨b, 2, none⟩ (.slice d2.p d2.n d2.c) = w' := ⟨_, rfl⟩
  obtain ⟨C5, hC5⟩ : ∃ c, C4.setIfInBounds 2 (.slice d2.p d2.n d2.c) = c := ⟨_, rfl⟩
  rw [hw5, hC5] at hb5
  rw [hw5] at Q25 P5
  have hz5 : C5.size = 17 := by rw [← hC5, Array.size_setIfInBounds]; exact hz4
  have g5 : ∀ i, 2 ≠ i → C5[i]? = C4[i]? := fun i hi => by rw [← hC5]; exact Array.getElem?_setIfInBounds_ne hi
  have q25 : C5[2]? = some (.slice d2.p d2.n d2.c) := by rw [← hC5]; exact Array.getElem?_setIfInBounds_self_of_lt (by rw [hz4]; omega)
  have S5 := S4.step P5 (by simp) hb5
  have ok5 := ok4.kept P5 (fun q h => by rcases h with rfl | rfl <;> rfl)
  have t05 := t04.kept P5 (by simp) (g5 0 (by omega))
  have t35 := t34.kept P5 (by simp) (g5 3 (by omega))
  have t45 := t44.kept P5 (by simp) (g5 4 (by omega))
  have Q15 := Q14.kept P5 (by simp)
  have q15 := (g5 1 (by omega)).trans q14
  obtain ⟨K5, hK5⟩ : ∃ k, (ext K4 w4.drew.heap.size (o, 2 + 1)) = k := ⟨_, rfl⟩
  rw [hK5] at S5 ok5 t05 t35 t45 Q15 Q25 P5
  have D5 : Kp (fun _ => False) K5 K5 w5 w5.drew := (Kp.refl _ _ _).drew
  have e3S := S5
  replace S5 := S5.step D5 (fun h => h) S5.seat
  replace ok5 := ok5.kept D5 (fun q h => h.elim)
  replace t05 := t05.kept D5 (fun h => h) rfl
  replace t35 := t35.kept D5 (fun h => h) rfl
  replace t45 := t45.kept D5 (fun h => h) rfl
  replace Q15 := Q15.kept D5 (fun h => h)
  replace Q25 := Q25.kept D5 (fun h => h)
  obtain ⟨a3, n3, c3, y3, r3, R3⟩ := t35
  obtain ⟨d3, v3, hr3, hx3, hn3, hu3, hf3, hb6, Q36, P6, hv3⟩ := se_seg elt_set S5.seat S5.kb 3 a3 n3 c3 y3 r3 R3 a.sets ok5.sets.ok 39
  have e3 : w5.cell? ⟨b, 3, none⟩ = some (.slice a3 n3 c3) := by rw [cell_of_row _ _ _ _ _ _ e3S.seat]; exact r3
  clear e3S
  have l3 : w5.cell? ⟨w.heap.size, 6, none⟩ = some (.slice a.sets.p a.sets.n a.sets.c) := by rw [← World.cell?_of_block (w := w5) (w' := w5.drew) rfl, cell_of_row _ _ _ _ _ _ S5.a, ← hA]; rfl
  have l3' : v3.cell? ⟨w.heap.size, 6, none⟩ = some (.slice a.sets.p a.sets.n a.sets.c) := by rw [World.cell?_of_block (w := w5.drew) (hv3 _ (lt_of_block S5.a) (by rw [S5.ka]; simp))]; exact l3
  obtain ⟨w6, hw6⟩ : ∃ w', v3.setCell ⟨b, 3, none⟩ (.slice d3.p d3.n d3.c) = w' := ⟨_, rfl⟩
  obtain ⟨C6, hC6⟩ : ∃ c, C5.setIfInBounds 3 (.slice d3.p d3.n d3.c) = c := ⟨_, rfl⟩
  rw [hw6, hC6] at hb6
  rw [hw6] at Q36 P6
  have hz6 : C6.size = 17 := by rw [← hC6, Array.size_setIfInBounds]; exact hz5
  have g6 : ∀ i, 3 ≠ i → C6[i]? = C5[i]? := fun i hi => by rw [← hC6]; exact Array.getElem?_setIfInBounds_ne hi
  have q36 : C6[3]? = some (.slice d3.p d3.n d3.c) := by rw [← hC6]; exact Array.getElem?_setIfInBounds_self_of_lt (by rw [hz5]; omega)
  have S6 := S5.step P6 (by simp) hb6
  have ok6 := ok5.kept P6 (fun q h => by rcases h with rfl | rfl <;> rfl)
  have t06 := t05.kept P6 (by simp) (g6 0 (by omega))
  have t46 := t45.kept P6 (by simp) (g6 4 (by omega))
  have Q16 := Q15.kept P6 (by simp)
  have q16 := (g6 1 (by omega)).trans q15
  have Q26 := Q25.kept P6 (by simp)
  have q26 := (g6 2 (by omega)).trans q25
  obtain ⟨K6, hK6⟩ : ∃ k, (ext K5 w5.drew.heap.size (o, 3 + 1)) = k := ⟨_, rfl⟩
  rw [hK6] at S6 ok6 t06 t46 Q16 Q26 Q36 P6
  have D6 : Kp (fun _ => False) K6 K6 w6 w6.drew := (Kp.refl _ _ _).drew
  have e4S := S6
  replace S6 := S6.step D6 (fun h => h) S6.seat
  replace ok6 := ok6.kept D6 (fun q h => h.elim)
  replace t06 := t06.kept D6 (fun h => h) rfl
  replace t46 := t46.kept D6 (fun h => h) rfl
  replace Q16 := Q16.kept D6 (fun h => h)
  replace Q26 := Q26.kept D6 (fun h => h)
  replace Q36 := Q36.kept D6 (fun h => h)
  obtain ⟨a4, n4, c4, y4, r4, R4⟩ := t46
  obtain ⟨d4, v4, hr4, hx4, hn4, hu4, hf4, hb7, Q47, P7, hv4⟩ := se_seg elt_right S6.seat S6.kb 4 a4 n4 c4 y4 r4 R4 a.rights ok6.rights.ok 40
  have e4 : w6.cell? ⟨b, 4, none⟩ = some (.slice a4 n4 c4) := by rw [cell_of_row _ _ _ _ _ _ e4S.seat]; exact r4
  clear e4S
  have l4 : w6.cell? ⟨w.heap.size, 14, none⟩ = some (.slice a.rights.p a.rights.n a.rights.c) := by rw [← World.cell?_of_block (w := w6) (w' := w6.drew) rfl, cell_of_row _ _ _ _ _ _ S6.a, ← hA]; rfl
  have l4' : v4.cell? ⟨w.heap.size, 14, none⟩ = some (.slice a.rights.p a.rights.n a.rights.c) := by rw [World.cell?_of_block (w := w6.drew) (hv4 _ (lt_of_block S6.a) (by rw [S6.ka]; simp))]; exact l4
  obtain ⟨w7, hw7⟩ : ∃ w', v4.setCell ⟨b, 4, none⟩ (.slice d4.p d4.n d4.c) = w' := ⟨_, rfl⟩
  obtain ⟨C7, hC7⟩ : ∃ c, C6.setIfInBounds 4 (.slice d4.p d4.n d4.c) = c := ⟨_, rfl⟩
  rw [hw7, hC7] at hb7
  rw [hw7] at Q47 P7
  have hz7 : C7.size = 17 := by rw [← hC7, Array.size_setIfInBounds]; exact hz6
  have g7 : ∀ i, 4 ≠ i → C7[i]? = C6[i]? := fun i hi => by rw [← hC7]; exact Array.getElem?_setIfInBounds_ne hi
  have q47 : C7[4]? = some (.slice d4.p d4.n d4.c) := by rw [← hC7]; exact Array.getElem?_setIfInBounds_self_of_lt (by rw [hz6]; omega)
  have S7 := S6.step P7 (by simp) hb7
  have ok7 := ok6.kept P7 (fun q h => by rcases h with rfl | rfl <;> rfl)
  have t07 := t06.kept P7 (by simp) (g7 0 (by omega))
  have Q17 := Q16.kept P7 (by simp)
  have q17 := (g7 1 (by omega)).trans q16
  have Q27 := Q26.kept P7 (by simp)
  have q27 := (g7 2 (by omega)).trans q26
  have Q37 := Q36.kept P7 (by simp)
  have q37 := (g7 3 (by omega)).trans q36
  obtain ⟨K7, hK7⟩ : ∃ k, (ext K6 w6.drew.heap.size (o, 4 + 1)) = k := ⟨_, rfl⟩
  rw [hK7] at S7 ok7 t07 P7 Q17 Q27 Q37 Q47
  obtain ⟨a0, n0, c0, y0, r0, R0⟩ := t07
  have HLn := hide (seatLines_any w7 K7 o b C7 S7.seat hz7 S7.kb a0 n0 c0 y0 r0 R0 a.lines ok7.lines.ok)
  have l0 : w7.cell? ⟨w.heap.size, 4, none⟩ = some (.slice a.lines.p a.lines.n a.lines.c) := by rw [cell_of_row _ _ _ _ _ _ S7.a, ← hA]; rfl
  have HL1 := hide (loadAt_row (P := Try.prog) (ty := 80) (show ((w.alloc (.cells A 80)).alloc (.cells Z 80)).heap[w.heap.size]? = some (.cells A 80 (0, 0)) from by rw [Below.heap_alloc _ _ _ (by simp)]; exact heap_alloc_new _ _) Try.underlying80 rfl (by rw [HZ.out]; exact Try.sizeA))
  have hne : ¬ b = w.heap.size := by have := lt_of_block hb; omega
  have hne' : ¬ w.heap.size = b := by omega
  have HW3 := hide hw3
  have HZe := hide hZ
  have HS7 := hide S7
  have HPP := hide (And.intro (P3.trans D3) (And.intro P4 (And.intro D4 (And.intro P5 (And.intro D5 (And.intro P6 (And.intro D6 P7)))))))
  have HQ := hide (And.intro Q17 (And.intro Q27 (And.intro Q37 Q47)))
  have Hq := hide (And.intro q17 (And.intro q27 (And.intro q37 q47)))
  have Hx := hide (And.intro hx1 (And.intro hx2 (And.intro hx3 hx4)))
  have Hz7 := hide hz7
  have Hg := hide (And.intro g4 (And.intro g5 (And.intro g6 g7)))
  have HA := hide hA
  have HR1 := hide hr1
  have HW4 := hide hw4
  have HR2 := hide hr2
  have HW5 := hide hw5
  have HR3 := hide hr3
  have HW6 := hide hw6
  have HR4 := hide hr4
  have HW7 := hide hw7
  clear D3 D4 D5 D6 hw3 hZ hb hK hz S3 S4 S5 S6 S7 P3 P4 P5 P6 P7 ok3 ok4 ok5 ok6 ok7 hok hA s0 s1 s2 s3 s4 t03 t04 t05 t06 t23 t33 t34 t43 t44 t45 Q14 Q15 Q16 Q17 Q25 Q26 Q27 Q36 Q37 Q47 q14 q15 q16 q17 q25 q26 q27 q36 q37 q47 hx1 hx2 hx3 hx4 hn1 hn2 hn3 hn4 hz4 hz5 hz6 hz7 g4 g5 g6 g7 hC4 hC5 hC6 hC7 hb4 hb5 hb6 hb7 hv1 hv2 hv3 hv4 hw4 hw5 hw6 hw7 hr1 hr2 hr3 hr4 r0 r1 r2 r3 r4 R0 R1 R2 R3 R4 hK3 hK4 hK5 hK6 hK7
  go_enter Try.func29, Try.ntmps29
  go_upto_region 2 with (
    first
    | ((with_reducible show wpList _ _ _ (⟨_, .load 80 (.tmp 3), _, _, _, _⟩ :: _) _ _); refine lp_load w.heap.size 0 A rfl (by rw [HZe.out]; exact HL1.out) ?_)
    | ((with_reducible show wpList _ _ _ (⟨_, .store 80 (.tmp 5) _, _, _, _, _⟩ :: _) _ _); refine lp_store (t := 80) (x := .tmp 5) (some ⟨w.heap.size + 1 + 1, 0, none⟩) (.agg A) rfl rfl (by have h := run_storeAt_new (P := Try.prog) ((w.alloc (.cells A 80)).alloc (.cells Z 80)) 80 Z A (by rw [HZ.out]; exact Try.sizeA) (by rw [HZ.out]; exact HZz.out) HO.out; simp only [World.size_alloc] at h; rw [HZe.out]; exact h) ?_))
  rw [HW3.out]
  dsimp only [Act.put]
  refine wp_region_noPanic ?_
  refine wp_region_held_drew (S := fun w' => w'.cell? ⟨w.heap.size, 8, none⟩ = some (.slice a.other.p a.other.n a.other.c)) (by kernel_rfl) (by go_keep) (fun hHeld => ?_)
  refine wpAnyH_take (i := 0) (oi := _) (v := ?va0) rfl (by kernel_rfl) (by kernel_rfl) (by kernel_rfl) (fun _ _ _ h => h) (Or.inl ⟨by rfl, ?ya0⟩) (by assumption) ?ra0
  case ya0 => (intro w hSw; (try dsimp only at hSw); go_simp; try with_reducible rfl)
  try simp only [Act.put, List.setIfInBounds_toArray, List.set_cons_zero, List.set_cons_succ]
  refine wpAnyH_take (i := 1) (oi := _) (v := ?va1) rfl (by kernel_rfl) (by kernel_rfl) (by kernel_rfl) (fun _ _ _ h => h) (Or.inl ⟨by rfl, ?ya1⟩) (by assumption) ?ra1
  case ya1 => (intro w hSw; (try dsimp only at hSw); go_simp; try with_reducible rfl)
  try simp only [Act.put, List.setIfInBounds_toArray, List.set_cons_zero, List.set_cons_succ]
  refine wpAnyH_take (i := 2) (oi := _) (v := ?va2) rfl (by kernel_rfl) (by kernel_rfl) (by kernel_rfl) (fun _ _ _ h => h) (Or.inl ⟨by rfl, ?ya2⟩) (by assumption) ?ra2
  case ya2 => (intro w hSw; (try dsimp only at hSw); go_simp; try with_reducible rfl)
  try simp only [Act.put, List.setIfInBounds_toArray, List.set_cons_zero, List.set_cons_succ]
  refine wpAnyH_take (i := 3) (oi := _) (v := ?va3) rfl (by kernel_rfl) (by kernel_rfl) (by kernel_rfl) (fun _ _ _ h => h) (Or.inl ⟨by rfl, ?ya3⟩) (by assumption) ?ra3
  case ya3 => (intro w hSw; (try dsimp only at hSw); go_simp; try with_reducible rfl)
  try simp only [Act.put, List.setIfInBounds_toArray, List.set_cons_zero, List.set_cons_succ]
  refine wpAnyH_take (i := 6) (oi := _) (v := ?va6) rfl (by kernel_rfl) (by kernel_rfl) (by kernel_rfl) (fun _ _ _ h => h) (Or.inl ⟨by rfl, ?ya6⟩) (by assumption) ?ra6
  case ya6 => (intro w hSw; (try dsimp only at hSw); go_simp; try with_reducible rfl)
  try simp only [Act.put, List.setIfInBounds_toArray, List.set_cons_zero, List.set_cons_succ]
  refine wpAnyH_take (i := 7) (oi := _) (v := ?va7) rfl (by kernel_rfl) (by kernel_rfl) (by kernel_rfl) (fun _ _ _ h => h) (Or.inl ⟨by rfl, ?ya7⟩) (by assumption) ?ra7
  case ya7 => (intro w hSw; (try dsimp only at hSw); go_simp; try with_reducible rfl)
  try simp only [Act.put, List.setIfInBounds_toArray, List.set_cons_zero, List.set_cons_succ]
  refine wpAnyH_take (i := 8) (oi := _) (v := ?va8) rfl (by kernel_rfl) (by kernel_rfl) (by kernel_rfl) (fun _ _ _ h => h) (Or.inl ⟨by rfl, ?ya8⟩) (by assumption) ?ra8
  case ya8 => (intro w hSw; (try dsimp only at hSw); go_simp; try with_reducible rfl)
  try simp only [Act.put, List.setIfInBounds_toArray, List.set_cons_zero, List.set_cons_succ]
  refine wpAnyH_ready (rs := [4]) (by kernel_rfl) (by simp) ?_
  refine AllReadyH.cons (o := _) rfl (fun KK hKK => ?_) AllReadyH.nil
  go_simp
  refine hKK.out _ _ (by (try dsimp only); go_keep) (fun hHeld => ?_)
  clear hKK KK
  try simp only [Act.put, List.setIfInBounds_toArray, List.set_cons_zero, List.set_cons_succ]
  refine wpAnyH_take (i := 5) (oi := _) (v := ?va5) rfl (by kernel_rfl) (by kernel_rfl) (by kernel_rfl) (fun _ _ _ h => h) (Or.inl ⟨by rfl, ?ya5⟩) (by assumption) ?ra5
  case ya5 => (intro w hSw; (try dsimp only at hSw); go_simp; try with_reducible rfl)
  try simp only [Act.put, List.setIfInBounds_toArray, List.set_cons_zero, List.set_cons_succ]
  refine wpAnyH_ready (rs := [9]) (by kernel_rfl) (by simp) ?_
  refine AllReadyH.cons (o := _) rfl (fun KK hKK => ?_) AllReadyH.nil
  refine ite_wanted (by kernel_rfl) ?_
  refine wp_app_run (.tmp 12) (.tmp 15) 37 37 rfl (.slice a1 0 c1) (.slice a.other.p a.other.n a.other.c) (.slice d1.p d1.n d1.c) v1 rfl rfl HR1.out ?_
  refine hKK.out _ _ (by (try dsimp only); go_keep) (fun hHeld => ?_)
  clear hKK KK
  try simp only [Act.put, List.setIfInBounds_toArray, List.set_cons_zero, List.set_cons_succ]
  refine wpAnyH_take (i := 10) (oi := _) (v := ?va10) rfl (by kernel_rfl) (by kernel_rfl) (by kernel_rfl) (fun _ _ _ h => h) (Or.inl ⟨by rfl, ?ya10⟩) (by assumption) ?ra10
  case ya10 => (intro w hSw; (try dsimp only at hSw); go_simp; try with_reducible rfl)
  try simp only [Act.put, List.setIfInBounds_toArray, List.set_cons_zero, List.set_cons_succ]
  refine wpAnyH_take (i := 11) (oi := _) (v := ?va11) rfl (by kernel_rfl) (by kernel_rfl) (by kernel_rfl) (fun _ _ _ h => h) (Or.inl ⟨by rfl, ?ya11⟩) (by assumption) ?ra11
  case ya11 => (intro w hSw; (try dsimp only at hSw); go_simp; try with_reducible rfl)
  try simp only [Act.put, List.setIfInBounds_toArray, List.set_cons_zero, List.set_cons_succ]
  refine wpAnyH_ready (rs := [12]) (by kernel_rfl) (by simp) ?_
  refine AllReadyH.cons (o := _) rfl (fun KK hKK => ?_) AllReadyH.nil
  go_simp
  refine hKK.out _ _ (by (try dsimp only); go_keep) (fun hHeld => ?_)
  clear hKK KK
  try simp only [Act.put, List.setIfInBounds_toArray, List.set_cons_zero, List.set_cons_succ]
  refine wpAnyH_done (by kernel_rfl) (NoPanic.normal ?_) _
  rw [HW4.out]
  clear e1 l1 l1' hu1 hf1
  go_upto_region 3 with (fail)
  refine wp_region_noPanic ?_
  refine wp_region_held_drew (S := fun w' => w'.cell? ⟨w.heap.size, 5, none⟩ = some (.slice a.guards.p a.guards.n a.guards.c)) (by kernel_rfl) (by go_keep) (fun hHeld => ?_)
  refine wpAnyH_take (i := 0) (oi := _) (v := ?vb0) rfl (by kernel_rfl) (by kernel_rfl) (by kernel_rfl) (fun _ _ _ h => h) (Or.inl ⟨by rfl, ?yb0⟩) (by assumption) ?rb0
  case yb0 => (intro w hSw; (try dsimp only at hSw); go_simp; try with_reducible rfl)
  try simp only [Act.put, List.setIfInBounds_toArray, List.set_cons_zero, List.set_cons_succ]
  refine wpAnyH_take (i := 1) (oi := _) (v := ?vb1) rfl (by kernel_rfl) (by kernel_rfl) (by kernel_rfl) (fun _ _ _ h => h) (Or.inl ⟨by rfl, ?yb1⟩) (by assumption) ?rb1
  case yb1 => (intro w hSw; (try dsimp only at hSw); go_simp; try with_reducible rfl)
  try simp only [Act.put, List.setIfInBounds_toArray, List.set_cons_zero, List.set_cons_succ]
  refine wpAnyH_take (i := 2) (oi := _) (v := ?vb2) rfl (by kernel_rfl) (by kernel_rfl) (by kernel_rfl) (fun _ _ _ h => h) (Or.inl ⟨by rfl, ?yb2⟩) (by assumption) ?rb2
  case yb2 => (intro w hSw; (try dsimp only at hSw); go_simp; try with_reducible rfl)
  try simp only [Act.put, List.setIfInBounds_toArray, List.set_cons_zero, List.set_cons_succ]
  refine wpAnyH_take (i := 3) (oi := _) (v := ?vb3) rfl (by kernel_rfl) (by kernel_rfl) (by kernel_rfl) (fun _ _ _ h => h) (Or.inl ⟨by rfl, ?yb3⟩) (by assumption) ?rb3
  case yb3 => (intro w hSw; (try dsimp only at hSw); go_simp; try with_reducible rfl)
  try simp only [Act.put, List.setIfInBounds_toArray, List.set_cons_zero, List.set_cons_succ]
  refine wpAnyH_take (i := 6) (oi := _) (v := ?vb6) rfl (by kernel_rfl) (by kernel_rfl) (by kernel_rfl) (fun _ _ _ h => h) (Or.inl ⟨by rfl, ?yb6⟩) (by assumption) ?rb6
  case yb6 => (intro w hSw; (try dsimp only at hSw); go_simp; try with_reducible rfl)
  try simp only [Act.put, List.setIfInBounds_toArray, List.set_cons_zero, List.set_cons_succ]
  refine wpAnyH_take (i := 7) (oi := _) (v := ?vb7) rfl (by kernel_rfl) (by kernel_rfl) (by kernel_rfl) (fun _ _ _ h => h) (Or.inl ⟨by rfl, ?yb7⟩) (by assumption) ?rb7
  case yb7 => (intro w hSw; (try dsimp only at hSw); go_simp; try with_reducible rfl)
  try simp only [Act.put, List.setIfInBounds_toArray, List.set_cons_zero, List.set_cons_succ]
  refine wpAnyH_ready (rs := [4]) (by kernel_rfl) (by simp) ?_
  refine AllReadyH.cons (o := _) rfl (fun KK hKK => ?_) AllReadyH.nil
  go_simp
  refine hKK.out _ _ (by (try dsimp only); go_keep) (fun hHeld => ?_)
  clear hKK KK
  try simp only [Act.put, List.setIfInBounds_toArray, List.set_cons_zero, List.set_cons_succ]
  refine wpAnyH_take (i := 5) (oi := _) (v := ?vb5) rfl (by kernel_rfl) (by kernel_rfl) (by kernel_rfl) (fun _ _ _ h => h) (Or.inl ⟨by rfl, ?yb5⟩) (by assumption) ?rb5
  case yb5 => (intro w hSw; (try dsimp only at hSw); go_simp; try with_reducible rfl)
  try simp only [Act.put, List.setIfInBounds_toArray, List.set_cons_zero, List.set_cons_succ]
  refine wpAnyH_ready (rs := [8]) (by kernel_rfl) (by simp) ?_
  refine AllReadyH.cons (o := _) rfl (fun KK hKK => ?_) AllReadyH.nil
  refine ite_wanted (by kernel_rfl) ?_
  refine wp_app_run (.tmp 24) (.tmp 26) 38 38 rfl (.slice a2 0 c2) (.slice a.guards.p a.guards.n a.guards.c) (.slice d2.p d2.n d2.c) v2 rfl rfl HR2.out ?_
  refine hKK.out _ _ (by (try dsimp only); go_keep) (fun hHeld => ?_)
  clear hKK KK
  try simp only [Act.put, List.setIfInBounds_toArray, List.set_cons_zero, List.set_cons_succ]
  refine wpAnyH_take (i := 9) (oi := _) (v := ?vb9) rfl (by kernel_rfl) (by kernel_rfl) (by kernel_rfl) (fun _ _ _ h => h) (Or.inl ⟨by rfl, ?yb9⟩) (by assumption) ?rb9
  case yb9 => (intro w hSw; (try dsimp only at hSw); go_simp; try with_reducible rfl)
  try simp only [Act.put, List.setIfInBounds_toArray, List.set_cons_zero, List.set_cons_succ]
  refine wpAnyH_take (i := 10) (oi := _) (v := ?vb10) rfl (by kernel_rfl) (by kernel_rfl) (by kernel_rfl) (fun _ _ _ h => h) (Or.inl ⟨by rfl, ?yb10⟩) (by assumption) ?rb10
  case yb10 => (intro w hSw; (try dsimp only at hSw); go_simp; try with_reducible rfl)
  try simp only [Act.put, List.setIfInBounds_toArray, List.set_cons_zero, List.set_cons_succ]
  refine wpAnyH_ready (rs := [11]) (by kernel_rfl) (by simp) ?_
  refine AllReadyH.cons (o := _) rfl (fun KK hKK => ?_) AllReadyH.nil
  go_simp
  refine hKK.out _ _ (by (try dsimp only); go_keep) (fun hHeld => ?_)
  clear hKK KK
  try simp only [Act.put, List.setIfInBounds_toArray, List.set_cons_zero, List.set_cons_succ]
  refine wpAnyH_done (by kernel_rfl) (NoPanic.normal ?_) _
  rw [HW5.out]
  clear e2 l2 l2' hu2 hf2
  go_upto_region 4 with (fail)
  refine wp_region_noPanic ?_
  refine wp_region_held_drew (S := fun w' => w'.cell? ⟨w.heap.size, 6, none⟩ = some (.slice a.sets.p a.sets.n a.sets.c)) (by kernel_rfl) (by go_keep) (fun hHeld => ?_)
  refine wpAnyH_take (i := 0) (oi := _) (v := ?vc0) rfl (by kernel_rfl) (by kernel_rfl) (by kernel_rfl) (fun _ _ _ h => h) (Or.inl ⟨by rfl, ?yc0⟩) (by assumption) ?rc0
  case yc0 => (intro w hSw; (try dsimp only at hSw); go_simp; try with_reducible rfl)
  try simp only [Act.put, List.setIfInBounds_toArray, List.set_cons_zero, List.set_cons_succ]
  refine wpAnyH_take (i := 1) (oi := _) (v := ?vc1) rfl (by kernel_rfl) (by kernel_rfl) (by kernel_rfl) (fun _ _ _ h => h) (Or.inl ⟨by rfl, ?yc1⟩) (by assumption) ?rc1
  case yc1 => (intro w hSw; (try dsimp only at hSw); go_simp; try with_reducible rfl)
  try simp only [Act.put, List.setIfInBounds_toArray, List.set_cons_zero, List.set_cons_succ]
  refine wpAnyH_take (i := 2) (oi := _) (v := ?vc2) rfl (by kernel_rfl) (by kernel_rfl) (by kernel_rfl) (fun _ _ _ h => h) (Or.inl ⟨by rfl, ?yc2⟩) (by assumption) ?rc2
  case yc2 => (intro w hSw; (try dsimp only at hSw); go_simp; try with_reducible rfl)
  try simp only [Act.put, List.setIfInBounds_toArray, List.set_cons_zero, List.set_cons_succ]
  refine wpAnyH_take (i := 3) (oi := _) (v := ?vc3) rfl (by kernel_rfl) (by kernel_rfl) (by kernel_rfl) (fun _ _ _ h => h) (Or.inl ⟨by rfl, ?yc3⟩) (by assumption) ?rc3
  case yc3 => (intro w hSw; (try dsimp only at hSw); go_simp; try with_reducible rfl)
  try simp only [Act.put, List.setIfInBounds_toArray, List.set_cons_zero, List.set_cons_succ]
  refine wpAnyH_take (i := 6) (oi := _) (v := ?vc6) rfl (by kernel_rfl) (by kernel_rfl) (by kernel_rfl) (fun _ _ _ h => h) (Or.inl ⟨by rfl, ?yc6⟩) (by assumption) ?rc6
  case yc6 => (intro w hSw; (try dsimp only at hSw); go_simp; try with_reducible rfl)
  try simp only [Act.put, List.setIfInBounds_toArray, List.set_cons_zero, List.set_cons_succ]
  refine wpAnyH_take (i := 7) (oi := _) (v := ?vc7) rfl (by kernel_rfl) (by kernel_rfl) (by kernel_rfl) (fun _ _ _ h => h) (Or.inl ⟨by rfl, ?yc7⟩) (by assumption) ?rc7
  case yc7 => (intro w hSw; (try dsimp only at hSw); go_simp; try with_reducible rfl)
  try simp only [Act.put, List.setIfInBounds_toArray, List.set_cons_zero, List.set_cons_succ]
  refine wpAnyH_ready (rs := [4]) (by kernel_rfl) (by simp) ?_
  refine AllReadyH.cons (o := _) rfl (fun KK hKK => ?_) AllReadyH.nil
  go_simp
  refine hKK.out _ _ (by (try dsimp only); go_keep) (fun hHeld => ?_)
  clear hKK KK
  try simp only [Act.put, List.setIfInBounds_toArray, List.set_cons_zero, List.set_cons_succ]
  refine wpAnyH_take (i := 5) (oi := _) (v := ?vc5) rfl (by kernel_rfl) (by kernel_rfl) (by kernel_rfl) (fun _ _ _ h => h) (Or.inl ⟨by rfl, ?yc5⟩) (by assumption) ?rc5
  case yc5 => (intro w hSw; (try dsimp only at hSw); go_simp; try with_reducible rfl)
  try simp only [Act.put, List.setIfInBounds_toArray, List.set_cons_zero, List.set_cons_succ]
  refine wpAnyH_ready (rs := [8]) (by kernel_rfl) (by simp) ?_
  refine AllReadyH.cons (o := _) rfl (fun KK hKK => ?_) AllReadyH.nil
  refine ite_wanted (by kernel_rfl) ?_
  refine wp_app_run (.tmp 35) (.tmp 37) 39 39 rfl (.slice a3 0 c3) (.slice a.sets.p a.sets.n a.sets.c) (.slice d3.p d3.n d3.c) v3 rfl rfl HR3.out ?_
  refine hKK.out _ _ (by (try dsimp only); go_keep) (fun hHeld => ?_)
  clear hKK KK
  try simp only [Act.put, List.setIfInBounds_toArray, List.set_cons_zero, List.set_cons_succ]
  refine wpAnyH_take (i := 9) (oi := _) (v := ?vc9) rfl (by kernel_rfl) (by kernel_rfl) (by kernel_rfl) (fun _ _ _ h => h) (Or.inl ⟨by rfl, ?yc9⟩) (by assumption) ?rc9
  case yc9 => (intro w hSw; (try dsimp only at hSw); go_simp; try with_reducible rfl)
  try simp only [Act.put, List.setIfInBounds_toArray, List.set_cons_zero, List.set_cons_succ]
  refine wpAnyH_take (i := 10) (oi := _) (v := ?vc10) rfl (by kernel_rfl) (by kernel_rfl) (by kernel_rfl) (fun _ _ _ h => h) (Or.inl ⟨by rfl, ?yc10⟩) (by assumption) ?rc10
  case yc10 => (intro w hSw; (try dsimp only at hSw); go_simp; try with_reducible rfl)
  try simp only [Act.put, List.setIfInBounds_toArray, List.set_cons_zero, List.set_cons_succ]
  refine wpAnyH_ready (rs := [11]) (by kernel_rfl) (by simp) ?_
  refine AllReadyH.cons (o := _) rfl (fun KK hKK => ?_) AllReadyH.nil
  go_simp
  refine hKK.out _ _ (by (try dsimp only); go_keep) (fun hHeld => ?_)
  clear hKK KK
  try simp only [Act.put, List.setIfInBounds_toArray, List.set_cons_zero, List.set_cons_succ]
  refine wpAnyH_done (by kernel_rfl) (NoPanic.normal ?_) _
  rw [HW6.out]
  clear e3 l3 l3' hu3 hf3
  go_upto_region 5 with (fail)
  refine wp_region_noPanic ?_
  refine wp_region_held_drew (S := fun w' => w'.cell? ⟨w.heap.size, 14, none⟩ = some (.slice a.rights.p a.rights.n a.rights.c)) (by kernel_rfl) (by go_keep) (fun hHeld => ?_)
  refine wpAnyH_take (i := 0) (oi := _) (v := ?vd0) rfl (by kernel_rfl) (by kernel_rfl) (by kernel_rfl) (fun _ _ _ h => h) (Or.inl ⟨by rfl, ?yd0⟩) (by assumption) ?rd0
  case yd0 => (intro w hSw; (try dsimp only at hSw); go_simp; try with_reducible rfl)
  try simp only [Act.put, List.setIfInBounds_toArray, List.set_cons_zero, List.set_cons_succ]
  refine wpAnyH_take (i := 1) (oi := _) (v := ?vd1) rfl (by kernel_rfl) (by kernel_rfl) (by kernel_rfl) (fun _ _ _ h => h) (Or.inl ⟨by rfl, ?yd1⟩) (by assumption) ?rd1
  case yd1 => (intro w hSw; (try dsimp only at hSw); go_simp; try with_reducible rfl)
  try simp only [Act.put, List.setIfInBounds_toArray, List.set_cons_zero, List.set_cons_succ]
  refine wpAnyH_take (i := 2) (oi := _) (v := ?vd2) rfl (by kernel_rfl) (by kernel_rfl) (by kernel_rfl) (fun _ _ _ h => h) (Or.inl ⟨by rfl, ?yd2⟩) (by assumption) ?rd2
  case yd2 => (intro w hSw; (try dsimp only at hSw); go_simp; try with_reducible rfl)
  try simp only [Act.put, List.setIfInBounds_toArray, List.set_cons_zero, List.set_cons_succ]
  refine wpAnyH_take (i := 3) (oi := _) (v := ?vd3) rfl (by kernel_rfl) (by kernel_rfl) (by kernel_rfl) (fun _ _ _ h => h) (Or.inl ⟨by rfl, ?yd3⟩) (by assumption) ?rd3
  case yd3 => (intro w hSw; (try dsimp only at hSw); go_simp; try with_reducible rfl)
  try simp only [Act.put, List.setIfInBounds_toArray, List.set_cons_zero, List.set_cons_succ]
  refine wpAnyH_take (i := 6) (oi := _) (v := ?vd6) rfl (by kernel_rfl) (by kernel_rfl) (by kernel_rfl) (fun _ _ _ h => h) (Or.inl ⟨by rfl, ?yd6⟩) (by assumption) ?rd6
  case yd6 => (intro w hSw; (try dsimp only at hSw); go_simp; try with_reducible rfl)
  try simp only [Act.put, List.setIfInBounds_toArray, List.set_cons_zero, List.set_cons_succ]
  refine wpAnyH_take (i := 7) (oi := _) (v := ?vd7) rfl (by kernel_rfl) (by kernel_rfl) (by kernel_rfl) (fun _ _ _ h => h) (Or.inl ⟨by rfl, ?yd7⟩) (by assumption) ?rd7
  case yd7 => (intro w hSw; (try dsimp only at hSw); go_simp; try with_reducible rfl)
  try simp only [Act.put, List.setIfInBounds_toArray, List.set_cons_zero, List.set_cons_succ]
  refine wpAnyH_ready (rs := [4]) (by kernel_rfl) (by simp) ?_
  refine AllReadyH.cons (o := _) rfl (fun KK hKK => ?_) AllReadyH.nil
  go_simp
  refine hKK.out _ _ (by (try dsimp only); go_keep) (fun hHeld => ?_)
  clear hKK KK
  try simp only [Act.put, List.setIfInBounds_toArray, List.set_cons_zero, List.set_cons_succ]
  refine wpAnyH_take (i := 5) (oi := _) (v := ?vd5) rfl (by kernel_rfl) (by kernel_rfl) (by kernel_rfl) (fun _ _ _ h => h) (Or.inl ⟨by rfl, ?yd5⟩) (by assumption) ?rd5
  case yd5 => (intro w hSw; (try dsimp only at hSw); go_simp; try with_reducible rfl)
  try simp only [Act.put, List.setIfInBounds_toArray, List.set_cons_zero, List.set_cons_succ]
  refine wpAnyH_ready (rs := [8]) (by kernel_rfl) (by simp) ?_
  refine AllReadyH.cons (o := _) rfl (fun KK hKK => ?_) AllReadyH.nil
  refine ite_wanted (by kernel_rfl) ?_
  refine wp_app_run (.tmp 46) (.tmp 48) 40 40 rfl (.slice a4 0 c4) (.slice a.rights.p a.rights.n a.rights.c) (.slice d4.p d4.n d4.c) v4 rfl rfl HR4.out ?_
  refine hKK.out _ _ (by (try dsimp only); go_keep) (fun hHeld => ?_)
  clear hKK KK
  try simp only [Act.put, List.setIfInBounds_toArray, List.set_cons_zero, List.set_cons_succ]
  refine wpAnyH_take (i := 9) (oi := _) (v := ?vd9) rfl (by kernel_rfl) (by kernel_rfl) (by kernel_rfl) (fun _ _ _ h => h) (Or.inl ⟨by rfl, ?yd9⟩) (by assumption) ?rd9
  case yd9 => (intro w hSw; (try dsimp only at hSw); go_simp; try with_reducible rfl)
  try simp only [Act.put, List.setIfInBounds_toArray, List.set_cons_zero, List.set_cons_succ]
  refine wpAnyH_take (i := 10) (oi := _) (v := ?vd10) rfl (by kernel_rfl) (by kernel_rfl) (by kernel_rfl) (fun _ _ _ h => h) (Or.inl ⟨by rfl, ?yd10⟩) (by assumption) ?rd10
  case yd10 => (intro w hSw; (try dsimp only at hSw); go_simp; try with_reducible rfl)
  try simp only [Act.put, List.setIfInBounds_toArray, List.set_cons_zero, List.set_cons_succ]
  refine wpAnyH_ready (rs := [11]) (by kernel_rfl) (by simp) ?_
  refine AllReadyH.cons (o := _) rfl (fun KK hKK => ?_) AllReadyH.nil
  go_simp
  refine hKK.out _ _ (by (try dsimp only); go_keep) (fun hHeld => ?_)
  clear hKK KK
  try simp only [Act.put, List.setIfInBounds_toArray, List.set_cons_zero, List.set_cons_succ]
  refine wpAnyH_done (by kernel_rfl) (NoPanic.normal ?_) _
  rw [HW7.out]
  clear e4 l4 l4' hu4 hf4
  go_upto_region 7 with (go_at_call 42; refine HLn.out.mono ?_; rintro e w8 ⟨K8, p0, k0, rfl, hb8, Q08, P8⟩; have S8 := HS7.out.step P8 (by simp) hb8; obtain ⟨w9, hw9, ⟨u4, hu4⟩, hf4, S9, P9⟩ := x_put S8 4 (by rw [HZ.out]; omega) (.slice p0 a.lines.n k0); have HS9 := hide S9; have HP9 := hide P9; have HP8 := hide P8; have HQ0 := hide Q08; have HW9 := hide hw9; clear S8 S9 P9 P8 Q08 hw9 hb8)
  rw [HW9.out]
  clear hu4 hf4
  obtain ⟨C8, hC8⟩ : ∃ c, C7.set! 0 (.slice p0 a.lines.n k0) = c := ⟨_, rfl⟩
  rw [hC8] at HS9
  have g8 : ∀ i, 0 ≠ i → C8[i]? = C7[i]? := fun i hi => by rw [← hC8]; exact Array.getElem?_setIfInBounds_ne hi
  obtain ⟨q1, q2, q3, q4⟩ := Hq.out
  replace q1 := (g8 1 (by omega)).trans q1
  replace q2 := (g8 2 (by omega)).trans q2
  replace q3 := (g8 3 (by omega)).trans q3
  replace q4 := (g8 4 (by omega)).trans q4
  have q0 : C8[0]? = some (.slice p0 a.lines.n k0) := by rw [← hC8]; exact Array.getElem?_setIfInBounds_self_of_lt (by rw [Hz7.out]; omega)
  obtain ⟨w10, hw10, ⟨u8, hu8⟩, hf8, S10, P10⟩ := x_put HS9.out 8 (by simp only [Array.size_setIfInBounds]; rw [HZ.out]; omega) (.slice d1.p d1.n d1.c)
  obtain ⟨w11, hw11, ⟨u5, hu5⟩, hf5, S11, P11⟩ := x_put S10 5 (by simp only [Array.size_setIfInBounds]; rw [HZ.out]; omega) (.slice d2.p d2.n d2.c)
  obtain ⟨w12, hw12, ⟨u6, hu6⟩, hf6, S12, P12⟩ := x_put S11 6 (by simp only [Array.size_setIfInBounds]; rw [HZ.out]; omega) (.slice d3.p d3.n d3.c)
  obtain ⟨w13, hw13, ⟨u14, hu14⟩, hf14, S13, P13⟩ := x_put S12 14 (by simp only [Array.size_setIfInBounds]; rw [HZ.out]; omega) (.slice d4.p d4.n d4.c)
  have f1 := HS9.out.at q1
  have f2 := S10.at q2
  have f3 := S11.at q3
  have f4 := S12.at q4
  obtain ⟨X, hX⟩ : ∃ X, ((((A.setIfInBounds 4 (.slice p0 a.lines.n k0)).setIfInBounds 8 (.slice d1.p d1.n d1.c)).setIfInBounds 5 (.slice d2.p d2.n d2.c)).setIfInBounds 6 (.slice d3.p d3.n d3.c)).setIfInBounds 14 (.slice d4.p d4.n d4.c) = X := ⟨_, rfl⟩
  rw [hX] at S13
  have HXb : Hid (X = (⟨a.till, a.num, a.kind, a.sure, ⟨p0, a.lines.n, k0, a.lines.xs⟩, d2, d3, a.mg, d1, a.ra, a.rb, a.rd, a.to, a.gen, d4⟩ : Acd).arr) := by show _ = _; rw [← hX, ← HA.out]; rfl
  have HXs : Hid (X.size = 15) := by show _ = _; rw [HXb.out]; rfl
  have HXo : Hid (X.all (·.oneCell') = true) := by show _ = _; rw [HXb.out]; exact Acd.ones _
  have HLX := hide (loadAt_row (P := Try.prog) (ty := 80) S13.x Try.underlying80 rfl (by rw [HXs.out]; exact Try.sizeA))
  have HSX := hide (storeAt_row (P := Try.prog) (c' := X) S13.z (by rw [HXs.out]; exact Try.sizeA) (by rw [HXs.out]; exact HZz.out) HXo.out)
  have HPz := hide ((((HP9.out.trans P10).trans P11).trans P12).trans P13)
  have HS13 := hide S13
  have Hg8 := hide g8
  have HC8 := hide hC8
  have Hqs := hide (And.intro q0 (And.intro q1 (And.intro q2 (And.intro q3 q4))))
  have HW10 := hide hw10
  have HW11 := hide hw11
  have HW12 := hide hw12
  have HW13 := hide hw13
  clear S10 S11 S12 S13 P10 P11 P12 P13 g8 hC8 q0 q1 q2 q3 q4 hw10 hw11 hw12 hw13 hX
  go_upto_region 8 with (fail)
  rw [HW10.out]
  clear hu8 hf8 f1
  go_upto_region 9 with (fail)
  rw [HW11.out]
  clear hu5 hf5 f2
  go_upto_region 10 with (fail)
  rw [HW12.out]
  clear hu6 hf6 f3
  go_upto_region 11 with (fail)
  rw [HW13.out]
  clear hu14 hf14 f4
  go_wp2_with (
    first
    | ((with_reducible show wpList _ _ _ (⟨_, .load 80 (.tmp 5), _, _, _, _⟩ :: _) _ _); refine lp_load (w.heap.size + 1 + 1) 0 X rfl HLX.out ?_)
    | ((with_reducible show wpList _ _ _ (⟨_, .store 80 (.tmp 4) _, _, _, _, _⟩ :: _) _ _); refine lp_store (t := 80) (x := .tmp 4) (some ⟨w.heap.size + 1, 0, none⟩) (.agg X) rfl rfl HSX.out ?_))
  refine bodyPost_ret (results_cell_row rfl _ _ (w.heap.size + 1) 80 X (0, 0) _ rfl (setRow_heap _ _ _ _ _ _ HS13.out.z) Try.underlying80 rfl (by rw [HXs.out]; exact Try.sizeA)) rfl ?_
  have hPz := HPz.out.setRow (b := w.heap.size + 1) (Or.inr (by have h1 := HPz.out.same; exact HS13.out.kz)) X
  obtain ⟨Q1, Q2, Q3, Q4⟩ := HQ.out
  obtain ⟨x1, x2, x3, x4⟩ := Hx.out
  obtain ⟨g4, g5, g6, g7⟩ := Hg.out
  obtain ⟨PA, P4, D4, P5, D5, P6, D6, P7⟩ := HPP.out
  obtain ⟨q0, q1, q2, q3, q4⟩ := Hqs.out
  refine ⟨K8, C8, (⟨a.till, a.num, a.kind, a.sure, ⟨p0, a.lines.n, k0, a.lines.xs⟩, d2, d3, a.mg, d1, a.ra, a.rb, a.rd, a.to, a.gen, d4⟩ : Acd), by rw [HXb.out], by simp only [Acd.d, x1, x2, x3, x4], ?_, ?_, ?_, ⟨⟨q0, HQ0.out.kept hPz (by simp)⟩, ⟨q1, (Q1.kept HP8.out (by simp)).kept hPz (by simp)⟩, ⟨q2, (Q2.kept HP8.out (by simp)).kept hPz (by simp)⟩, ⟨q3, (Q3.kept HP8.out (by simp)).kept hPz (by simp)⟩, ⟨q4, (Q4.kept HP8.out (by simp)).kept hPz (by simp)⟩⟩, ?_⟩
  · refine (setRow_other _ _ _ X ?_).trans HS13.out.seat
    intro e
    have h1 := HS13.out.kb
    rw [e, HS13.out.kz] at h1
    simp at h1
  · rw [← HC8.out]
    exact (Array.size_setIfInBounds ..).trans Hz7.out
  · intro j hj
    exact (Hg8.out j (by omega)).trans ((g7 j (by omega)).trans ((g6 j (by omega)).trans ((g5 j (by omega)).trans (g4 j (by omega)))))
  · have m2 : ∀ (i : Nat), i ≤ 5 → ∀ q : Nat × Nat, (q = (o, 0) ∨ q = (o, i)) → q.1 = o ∧ q.2 ≤ 5 := fun i hi q h => by
      rcases h with rfl | rfl
      · exact ⟨rfl, by show 0 ≤ 5; omega⟩
      · exact ⟨rfl, hi⟩
    have m0 : ∀ q : Nat × Nat, False → q.1 = o ∧ q.2 ≤ 5 := fun q h => h.elim
    have r8 := ((((((((PA.mono m0).trans (P4.mono (m2 2 (by omega)))).trans (D4.mono m0)).trans (P5.mono (m2 3 (by omega)))).trans (D5.mono m0)).trans (P6.mono (m2 4 (by omega)))).trans (D6.mono m0)).trans (P7.mono (m2 5 (by omega)))).trans (HP8.out.mono (m2 1 (by omega)))
    have r9 := r8.setCell (b := w.heap.size + 1 + 1) (Or.inl (by omega)) 4 (.slice p0 a.lines.n k0)
    rw [HW9.out] at r9
    have r10 := r9.setCell (b := w.heap.size + 1 + 1) (Or.inl (by omega)) 8 (.slice d1.p d1.n d1.c)
    rw [HW10.out] at r10
    have r11 := r10.setCell (b := w.heap.size + 1 + 1) (Or.inl (by omega)) 5 (.slice d2.p d2.n d2.c)
    rw [HW11.out] at r11
    have r12 := r11.setCell (b := w.heap.size + 1 + 1) (Or.inl (by omega)) 6 (.slice d3.p d3.n d3.c)
    rw [HW12.out] at r12
    have r13 := r12.setCell (b := w.heap.size + 1 + 1) (Or.inl (by omega)) 14 (.slice d4.p d4.n d4.c)
    rw [HW13.out] at r13
    exact r13.setRow (b := w.heap.size + 1) (Or.inl (by omega)) X
end Go.Proofs.Ytecbidaljchmoaa
