import Derived.Test.YtecbidaljchmoaaRqA
import Derived.Test.YtecbidaljchmoaaRpN
namespace Go.Proofs.Ytecbidaljchmoaa
open Go.RowKit

structure EdaK (w : World) (K : Knd) (o : Nat) (e : Eda) : Prop where
  ac : AcdK w K o e.ac
  made : SlK w K o 2 linc e.made
  sets : SlK w K o 3 tric e.sets
theorem EdaK.kept {p : Nat × Nat → Prop} {w w' : World} {K K' : Knd} {o : Nat} {e : Eda} (h : EdaK w K o e) (hk : Kp p K K' w w') (hp : ∀ q, p q → q.1 = o) : EdaK w' K' o e := ⟨h.ac.kept hk hp, h.made.kept hk hp, h.sets.kept hk hp⟩
theorem AcRk.kept {p : Nat × Nat → Prop} {w w' : World} {K K' : Knd} {o : Nat} {C : Array Value} {a : Acd} (h : AcRk w K o C a) (hk : Kp p K K' w w') (hp : ∀ i, i ≤ 5 → ¬ p (o, i)) : AcRk w' K' o C a :=
  ⟨⟨h.lines.1, h.lines.2.kept hk (hp _ (by omega))⟩, ⟨h.other.1, h.other.2.kept hk (hp _ (by omega))⟩, ⟨h.guards.1, h.guards.2.kept hk (hp _ (by omega))⟩, ⟨h.sets.1, h.sets.2.kept hk (hp _ (by omega))⟩, ⟨h.rights.1, h.rights.2.kept hk (hp _ (by omega))⟩⟩
/-- An entry's lists, laid in a Seat. -/
structure EnRk (w : World) (K : Knd) (o : Nat) (C : Array Value) (e : Eda) : Prop where
  ac : AcRk w K o C e.ac
  made : C[5]? = some (.slice e.made.p e.made.n e.made.c) ∧ Rk w K (o, 6) 84 2 (.slice e.made.p e.made.n e.made.c) e.made.n (flat linc e.made.xs)
  sets : C[6]? = some (.slice e.sets.p e.sets.n e.sets.c) ∧ Rk w K (o, 7) 111 3 (.slice e.sets.p e.sets.n e.sets.c) e.sets.n (flat tric e.sets.xs)
theorem Kp.grownNew {p : Nat × Nat → Prop} {K K' : Knd} {w w1 w2 : World} {g : Nat} (h : Kp p K K' w w1) (hg : w1.grownBy w2 (some g)) (hge : w.heap.size ≤ g) : Kp p K K' w w2 :=
  ⟨hg.os.trans h.os, hg.tape.trans h.tape, hg.output.trans h.output, Nat.le_trans h.size hg.size, h.same, fun c hc hn => (hg.block c (Nat.lt_of_lt_of_le hc h.size) (by simp; omega)).trans (h.block c hc hn)⟩
theorem kp_same {p : Nat × Nat → Prop} {K : Knd} {w1 w2 : World} {g : Nat} (hg : w1.grownBy w2 (some g)) (hp : p (K g)) : Kp p K K w1 w2 :=
  ⟨hg.os, hg.tape, hg.output, hg.size, fun _ _ => rfl, fun c hc hn => hg.block c hc (by intro e; cases e; exact hn hp)⟩
set_option linter.unusedSimpArgs false in
set_option maxRecDepth 100000 in
set_option maxHeartbeats 8000000 in
theorem seatEntry_any (w : World) (K : Knd) (o b : Nat) (C : Array Value) (hb : w.heap[b]? = some (.cells C 48 (0, 0))) (hz : C.size = 17) (hK : K b = (o, 0)) (s0 : Slot w K o C 0 84 2) (s1 : Slot w K o C 1 84 2) (s2 : Slot w K o C 2 156 3) (s3 : Slot w K o C 3 111 3) (s4 : Slot w K o C 4 78 3) (s5 : Slot w K o C 5 84 2) (s6 : Slot w K o C 6 111 3) (e : Eda) (hok : EdaK w K o e) (A : Array Value) (hA : e.arr = A) :
    Calls Try.prog 25 #[.pointer (some ⟨b, 0, none⟩), .agg A] w fun r w' => ∃ (K' : Knd) (C' : Array Value) (d : Eda), r = .returned (.agg d.arr) ∧ d.d = e.d ∧ w'.heap[b]? = some (.cells C' 48 (0, 0)) ∧ C'.size = 17 ∧ (∀ j, 7 ≤ j → C'[j]? = C[j]?) ∧ EnRk w' K' o C' d ∧ Kp (fun q => q.1 = o ∧ q.2 ≤ 7) K K' w w' := by
  have HZ : Hid (A.size = 22) := by show _ = _; rw [← hA]; rfl
  have HO : Hid (A.all (·.oneCell') = true) := by show _ = _; rw [← hA]; exact e.ones
  obtain ⟨Z, hZ⟩ : ∃ Z : Array Value, #[.int .u64 0, .int .i64 0, .int .u64 0, .int .i64 0, .bool false, .slice none 0 0, .slice none 0 0, .slice none 0 0, .int .i64 0, .slice none 0 0, .int .i64 0, .int .i64 0, .int .i64 0, .int .i64 0, .int .u64 0, .slice none 0 0, .int .i64 0, .slice none 0 0, .slice none 0 0, .int .i64 0, .int .i64 0, .int .u64 0] = Z := ⟨_, rfl⟩
  have HZz : Hid (Z.size = 22) := by show _ = _; rw [← hZ]; rfl
  obtain ⟨w3, hw3, S3, P3⟩ := three_box (A := A) (Z := Z) (ty := 82) hb hK
  have ok3 := hok.kept P3 (fun q h => h.elim)
  have t03 := s0.kept P3 (fun h => h) rfl
  have t13 := s1.kept P3 (fun h => h) rfl
  have t23 := s2.kept P3 (fun h => h) rfl
  have t33 := s3.kept P3 (fun h => h) rfl
  have t43 := s4.kept P3 (fun h => h) rfl
  have t53 := s5.kept P3 (fun h => h) rfl
  have t63 := s6.kept P3 (fun h => h) rfl
  obtain ⟨K3, hK3⟩ : ∃ k, (ext K w.heap.size (o, 99)) = k := ⟨_, rfl⟩
  rw [hK3] at S3 ok3 t03 t13 t23 t33 t43 t53 t63  P3
  have D3 : Kp (fun _ => False) K3 K3 w3 w3.drew := (Kp.refl _ _ _).drew
  have e5S := S3
  replace S3 := S3.step D3 (fun h => h) S3.seat
  replace ok3 := ok3.kept D3 (fun q h => h.elim)
  replace t03 := t03.kept D3 (fun h => h) rfl
  replace t13 := t13.kept D3 (fun h => h) rfl
  replace t23 := t23.kept D3 (fun h => h) rfl
  replace t33 := t33.kept D3 (fun h => h) rfl
  replace t43 := t43.kept D3 (fun h => h) rfl
  replace t53 := t53.kept D3 (fun h => h) rfl
  replace t63 := t63.kept D3 (fun h => h) rfl
  obtain ⟨a5, n5, c5, y5, r5, R5⟩ := t53
  obtain ⟨d5, v5, hr5, hx5, hn5, hu5, hf5, hb4, Q54, P4, hv5⟩ := se_seg elt_line S3.seat S3.kb 5 a5 n5 c5 y5 r5 R5 e.made ok3.made.ok 37
  have e5 : w3.cell? ⟨b, 5, none⟩ = some (.slice a5 n5 c5) := by rw [cell_of_row _ _ _ _ _ _ e5S.seat]; exact r5
  clear e5S
  have l5 : w3.cell? ⟨w.heap.size, 17, none⟩ = some (.slice e.made.p e.made.n e.made.c) := by rw [← World.cell?_of_block (w := w3) (w' := w3.drew) rfl, cell_of_row _ _ _ _ _ _ S3.a, ← hA]; rfl
  have l5' : v5.cell? ⟨w.heap.size, 17, none⟩ = some (.slice e.made.p e.made.n e.made.c) := by rw [World.cell?_of_block (w := w3.drew) (hv5 _ (lt_of_block S3.a) (by rw [S3.ka]; simp))]; exact l5
  obtain ⟨w4, hw4⟩ : ∃ w', v5.setCell ⟨b, 5, none⟩ (.slice d5.p d5.n d5.c) = w' := ⟨_, rfl⟩
  obtain ⟨C4, hC4⟩ : ∃ c, C.setIfInBounds 5 (.slice d5.p d5.n d5.c) = c := ⟨_, rfl⟩
  rw [hw4, hC4] at hb4
  rw [hw4] at Q54 P4
  have hz4 : C4.size = 17 := by rw [← hC4, Array.size_setIfInBounds]; exact hz
  have g4 : ∀ i, 5 ≠ i → C4[i]? = C[i]? := fun i hi => by rw [← hC4]; exact Array.getElem?_setIfInBounds_ne hi
  have q54 : C4[5]? = some (.slice d5.p d5.n d5.c) := by rw [← hC4]; exact Array.getElem?_setIfInBounds_self_of_lt (by rw [hz]; omega)
  have S4 := S3.step P4 (by simp) hb4
  have ok4 := ok3.kept P4 (fun q h => by rcases h with rfl | rfl <;> rfl)
  have t04 := t03.kept P4 (by simp) (g4 0 (by omega))
  have t14 := t13.kept P4 (by simp) (g4 1 (by omega))
  have t24 := t23.kept P4 (by simp) (g4 2 (by omega))
  have t34 := t33.kept P4 (by simp) (g4 3 (by omega))
  have t44 := t43.kept P4 (by simp) (g4 4 (by omega))
  have t64 := t63.kept P4 (by simp) (g4 6 (by omega))
  obtain ⟨K4, hK4⟩ : ∃ k, (ext K3 w3.drew.heap.size (o, 5 + 1)) = k := ⟨_, rfl⟩
  rw [hK4] at S4 ok4 t04 t14 t24 t34 t44 t64 Q54 P4
  have D4 : Kp (fun _ => False) K4 K4 w4 w4.drew := (Kp.refl _ _ _).drew
  have e6S := S4
  replace S4 := S4.step D4 (fun h => h) S4.seat
  replace ok4 := ok4.kept D4 (fun q h => h.elim)
  replace t04 := t04.kept D4 (fun h => h) rfl
  replace t14 := t14.kept D4 (fun h => h) rfl
  replace t24 := t24.kept D4 (fun h => h) rfl
  replace t34 := t34.kept D4 (fun h => h) rfl
  replace t44 := t44.kept D4 (fun h => h) rfl
  replace t64 := t64.kept D4 (fun h => h) rfl
  replace Q54 := Q54.kept D4 (fun h => h)
  obtain ⟨a6, n6, c6, y6, r6, R6⟩ := t64
  obtain ⟨d6, v6, hr6, hx6, hn6, hu6, hf6, hb5, Q65, P5, hv6⟩ := se_seg elt_set S4.seat S4.kb 6 a6 n6 c6 y6 r6 R6 e.sets ok4.sets.ok 39
  have e6 : w4.cell? ⟨b, 6, none⟩ = some (.slice a6 n6 c6) := by rw [cell_of_row _ _ _ _ _ _ e6S.seat]; exact r6
  clear e6S
  have l6 : w4.cell? ⟨w.heap.size, 18, none⟩ = some (.slice e.sets.p e.sets.n e.sets.c) := by rw [← World.cell?_of_block (w := w4) (w' := w4.drew) rfl, cell_of_row _ _ _ _ _ _ S4.a, ← hA]; rfl
  have l6' : v6.cell? ⟨w.heap.size, 18, none⟩ = some (.slice e.sets.p e.sets.n e.sets.c) := by rw [World.cell?_of_block (w := w4.drew) (hv6 _ (lt_of_block S4.a) (by rw [S4.ka]; simp))]; exact l6
  obtain ⟨w5, hw5⟩ : ∃ w', v6.setCell ⟨b, 6, none⟩ (.slice d6.p d6.n d6.c) = w' := ⟨_, rfl⟩
  obtain ⟨C5, hC5⟩ : ∃ c, C4.setIfInBounds 6 (.slice d6.p d6.n d6.c) = c := ⟨_, rfl⟩
  rw [hw5, hC5] at hb5
  rw [hw5] at Q65 P5
  have hz5 : C5.size = 17 := by rw [← hC5, Array.size_setIfInBounds]; exact hz4
  have g5 : ∀ i, 6 ≠ i → C5[i]? = C4[i]? := fun i hi => by rw [← hC5]; exact Array.getElem?_setIfInBounds_ne hi
  have q65 : C5[6]? = some (.slice d6.p d6.n d6.c) := by rw [← hC5]; exact Array.getElem?_setIfInBounds_self_of_lt (by rw [hz4]; omega)
  have S5 := S4.step P5 (by simp) hb5
  have ok5 := ok4.kept P5 (fun q h => by rcases h with rfl | rfl <;> rfl)
  have t05 := t04.kept P5 (by simp) (g5 0 (by omega))
  have t15 := t14.kept P5 (by simp) (g5 1 (by omega))
  have t25 := t24.kept P5 (by simp) (g5 2 (by omega))
  have t35 := t34.kept P5 (by simp) (g5 3 (by omega))
  have t45 := t44.kept P5 (by simp) (g5 4 (by omega))
  have Q55 := Q54.kept P5 (by simp)
  have q55 := (g5 5 (by omega)).trans q54
  obtain ⟨K5, hK5⟩ : ∃ k, (ext K4 w4.drew.heap.size (o, 6 + 1)) = k := ⟨_, rfl⟩
  rw [hK5] at S5 ok5 t05 t15 t25 t35 t45 P5 Q55 Q65
  obtain ⟨D, hD⟩ : ∃ D, e.ac.arr = D := ⟨_, rfl⟩
  have HAc := hide (seatAct_any w5 K5 o b C5 S5.seat hz5 S5.kb t05 t15 t25 t35 t45 e.ac ok5.ac D hD)
  have HLA : Hid ((Instr.loadAt 80 (.pointer (some ⟨w.heap.size, 1, none⟩))).run Try.prog w5 = .ok (.agg D) w5) := by
    show _ = _
    rw [← hD]
    refine run_loadAt_mid (P := Try.prog) w5 w.heap.size 1 80 e.ac.list _ (fun j v hv => ?_) Try.underlying80 rfl Try.sizeA
    rw [cell_of_row _ _ _ _ _ _ S5.a, ← hA]
    exact act_in e j v hv
  have HL1 := hide (loadAt_row (P := Try.prog) (ty := 82) (show ((w.alloc (.cells A 82)).alloc (.cells Z 82)).heap[w.heap.size]? = some (.cells A 82 (0, 0)) from by rw [Below.heap_alloc _ _ _ (by simp)]; exact heap_alloc_new _ _) Try.underlying82 rfl (by rw [HZ.out]; exact Try.sizeE))
  have hne : ¬ b = w.heap.size := by have := lt_of_block hb; omega
  have hne' : ¬ w.heap.size = b := by omega
  have HW3 := hide hw3
  have HZe := hide hZ
  have HS5 := hide S5
  have HPP := hide (And.intro (P3.trans D3) (And.intro P4 (And.intro D4 P5)))
  have HQ := hide (And.intro Q55 Q65)
  have Hq := hide (And.intro q55 q65)
  have Hx := hide (And.intro hx5 hx6)
  have Hg := hide (And.intro g4 g5)
  have HA := hide hA
  have HR5 := hide hr5
  have HR6 := hide hr6
  have HW4 := hide hw4
  have HW5 := hide hw5
  clear hD D3 D4 hw3 hZ hb hK hz S3 S4 S5 P3 P4 P5 ok3 ok4 ok5 hok hA s0 s1 s2 s3 s4 s5 s6 t03 t13 t23 t33 t43 t63 t04 t14 t24 t34 t44 t05 t15 t25 t35 t45 Q54 Q55 Q65 q54 q55 q65 hx5 hx6 hn5 hn6 hz4 hz5 g4 g5 hC4 hC5 hb4 hb5 hv5 hv6 hw4 hw5 hr5 hr6 r5 r6 R5 R6 hK3 hK4 hK5
  go_enter Try.func25, Try.ntmps25
  go_upto_region 2 with (
    first
    | ((with_reducible show wpList _ _ _ (⟨_, .load 82 (.tmp 3), _, _, _, _⟩ :: _) _ _); refine lp_load w.heap.size 0 A rfl (by rw [HZe.out]; exact HL1.out) ?_)
    | ((with_reducible show wpList _ _ _ (⟨_, .store 82 (.tmp 5) _, _, _, _, _⟩ :: _) _ _); refine lp_store (t := 82) (x := .tmp 5) (some ⟨w.heap.size + 1 + 1, 0, none⟩) (.agg A) rfl rfl (by have h := run_storeAt_new (P := Try.prog) ((w.alloc (.cells A 82)).alloc (.cells Z 82)) 82 Z A (by rw [HZ.out]; exact Try.sizeE) (by rw [HZ.out]; exact HZz.out) HO.out; simp only [World.size_alloc] at h; rw [HZe.out]; exact h) ?_))
  rw [HW3.out]
  dsimp only [Act.put]
  refine wp_region_noPanic ?_
  refine wp_region_held_drew (S := fun w' => w'.cell? ⟨w.heap.size, 17, none⟩ = some (.slice e.made.p e.made.n e.made.c)) (by kernel_rfl) (by go_keep) (fun hHeld => ?_)
  refine wpAnyH_take (i := 0) (oi := _) (v := ?va0) rfl (by kernel_rfl) (by kernel_rfl) (by kernel_rfl) (fun _ _ _ h => h) (Or.inl ⟨by rfl, ?ya0⟩) (by assumption) ?ra0
  case ya0 => (intro w hSw; (try dsimp only at hSw); go_simp; try with_reducible rfl)
  try simp only [Act.put, List.setIfInBounds_toArray, List.set_cons_zero, List.set_cons_succ]
  refine wpAnyH_take (i := 1) (oi := _) (v := ?va1) rfl (by kernel_rfl) (by kernel_rfl) (by kernel_rfl) (fun _ _ _ h => h) (Or.inl ⟨by rfl, ?ya1⟩) (by assumption) ?ra1
  case ya1 => (intro w hSw; (try dsimp only at hSw); go_simp; try with_reducible rfl)
  try simp only [Act.put, List.setIfInBounds_toArray, List.set_cons_zero, List.set_cons_succ]
  refine wpAnyH_take (i := 2) (oi := _) (v := ?va2) rfl (by kernel_rfl) (by kernel_rfl) (by kernel_rfl) (fun _ _ _ h => h) (Or.inl ⟨by rfl, ?ya2⟩) (by assumption) ?ra2
  case ya2 => (intro w hSw; (try dsimp only at hSw); go_simp; try with_reducible rfl)
  try simp only [Act.put, List.setIfInBounds_toArray, List.set_cons_zero, List.set_cons_succ]
  refine wpAnyH_take (i := 3) (oi := _) (v := ?va3) rfl (by kernel_rfl) (by kernel_rfl) (by kernel_rfl) (fun _ _ _ h => h) (Or.inl ⟨by rfl, ?ya3⟩) (by assumption) ?ra3
  case ya3 => (intro w hSw; (try dsimp only at hSw); go_simp; try with_reducible rfl)
  try simp only [Act.put, List.setIfInBounds_toArray, List.set_cons_zero, List.set_cons_succ]
  refine wpAnyH_take (i := 6) (oi := _) (v := ?va6) rfl (by kernel_rfl) (by kernel_rfl) (by kernel_rfl) (fun _ _ _ h => h) (Or.inl ⟨by rfl, ?ya6⟩) (by assumption) ?ra6
  case ya6 => (intro w hSw; (try dsimp only at hSw); go_simp; try with_reducible rfl)
  try simp only [Act.put, List.setIfInBounds_toArray, List.set_cons_zero, List.set_cons_succ]
  refine wpAnyH_take (i := 7) (oi := _) (v := ?va7) rfl (by kernel_rfl) (by kernel_rfl) (by kernel_rfl) (fun _ _ _ h => h) (Or.inl ⟨by rfl, ?ya7⟩) (by assumption) ?ra7
  case ya7 => (intro w hSw; (try dsimp only at hSw); go_simp; try with_reducible rfl)
  try simp only [Act.put, List.setIfInBounds_toArray, List.set_cons_zero, List.set_cons_succ]
  refine wpAnyH_ready (rs := [4]) (by kernel_rfl) (by simp) ?_
  refine AllReadyH.cons (o := _) rfl (fun KK hKK => ?_) AllReadyH.nil
  go_simp
  refine hKK.out _ _ (by (try dsimp only); go_keep) (fun hHeld => ?_)
  clear hKK KK
  try simp only [Act.put, List.setIfInBounds_toArray, List.set_cons_zero, List.set_cons_succ]
  refine wpAnyH_take (i := 5) (oi := _) (v := ?va5) rfl (by kernel_rfl) (by kernel_rfl) (by kernel_rfl) (fun _ _ _ h => h) (Or.inl ⟨by rfl, ?ya5⟩) (by assumption) ?ra5
  case ya5 => (intro w hSw; (try dsimp only at hSw); go_simp; try with_reducible rfl)
  try simp only [Act.put, List.setIfInBounds_toArray, List.set_cons_zero, List.set_cons_succ]
  refine wpAnyH_ready (rs := [8]) (by kernel_rfl) (by simp) ?_
  refine AllReadyH.cons (o := _) rfl (fun KK hKK => ?_) AllReadyH.nil
  refine ite_wanted (by kernel_rfl) ?_
  refine wp_app_run (.tmp 12) (.tmp 14) 37 37 rfl (.slice a5 0 c5) (.slice e.made.p e.made.n e.made.c) (.slice d5.p d5.n d5.c) v5 rfl rfl HR5.out ?_
  refine hKK.out _ _ (by (try dsimp only); go_keep) (fun hHeld => ?_)
  clear hKK KK
  try simp only [Act.put, List.setIfInBounds_toArray, List.set_cons_zero, List.set_cons_succ]
  refine wpAnyH_take (i := 9) (oi := _) (v := ?va9) rfl (by kernel_rfl) (by kernel_rfl) (by kernel_rfl) (fun _ _ _ h => h) (Or.inl ⟨by rfl, ?ya9⟩) (by assumption) ?ra9
  case ya9 => (intro w hSw; (try dsimp only at hSw); go_simp; try with_reducible rfl)
  try simp only [Act.put, List.setIfInBounds_toArray, List.set_cons_zero, List.set_cons_succ]
  refine wpAnyH_take (i := 10) (oi := _) (v := ?va10) rfl (by kernel_rfl) (by kernel_rfl) (by kernel_rfl) (fun _ _ _ h => h) (Or.inl ⟨by rfl, ?ya10⟩) (by assumption) ?ra10
  case ya10 => (intro w hSw; (try dsimp only at hSw); go_simp; try with_reducible rfl)
  try simp only [Act.put, List.setIfInBounds_toArray, List.set_cons_zero, List.set_cons_succ]
  refine wpAnyH_ready (rs := [11]) (by kernel_rfl) (by simp) ?_
  refine AllReadyH.cons (o := _) rfl (fun KK hKK => ?_) AllReadyH.nil
  go_simp
  refine hKK.out _ _ (by (try dsimp only); go_keep) (fun hHeld => ?_)
  clear hKK KK
  try simp only [Act.put, List.setIfInBounds_toArray, List.set_cons_zero, List.set_cons_succ]
  refine wpAnyH_done (by kernel_rfl) (NoPanic.normal ?_) _
  rw [HW4.out]
  clear e5 l5 l5' hu5 hf5
  go_upto_region 3 with (fail)
  refine wp_region_noPanic ?_
  refine wp_region_held_drew (S := fun w' => w'.cell? ⟨w.heap.size, 18, none⟩ = some (.slice e.sets.p e.sets.n e.sets.c)) (by kernel_rfl) (by go_keep) (fun hHeld => ?_)
  refine wpAnyH_take (i := 0) (oi := _) (v := ?vb0) rfl (by kernel_rfl) (by kernel_rfl) (by kernel_rfl) (fun _ _ _ h => h) (Or.inl ⟨by rfl, ?yb0⟩) (by assumption) ?rb0
  case yb0 => (intro w hSw; (try dsimp only at hSw); go_simp; try with_reducible rfl)
  try simp only [Act.put, List.setIfInBounds_toArray, List.set_cons_zero, List.set_cons_succ]
  refine wpAnyH_take (i := 1) (oi := _) (v := ?vb1) rfl (by kernel_rfl) (by kernel_rfl) (by kernel_rfl) (fun _ _ _ h => h) (Or.inl ⟨by rfl, ?yb1⟩) (by assumption) ?rb1
  case yb1 => (intro w hSw; (try dsimp only at hSw); go_simp; try with_reducible rfl)
  try simp only [Act.put, List.setIfInBounds_toArray, List.set_cons_zero, List.set_cons_succ]
  refine wpAnyH_take (i := 2) (oi := _) (v := ?vb2) rfl (by kernel_rfl) (by kernel_rfl) (by kernel_rfl) (fun _ _ _ h => h) (Or.inl ⟨by rfl, ?yb2⟩) (by assumption) ?rb2
  case yb2 => (intro w hSw; (try dsimp only at hSw); go_simp; try with_reducible rfl)
  try simp only [Act.put, List.setIfInBounds_toArray, List.set_cons_zero, List.set_cons_succ]
  refine wpAnyH_take (i := 3) (oi := _) (v := ?vb3) rfl (by kernel_rfl) (by kernel_rfl) (by kernel_rfl) (fun _ _ _ h => h) (Or.inl ⟨by rfl, ?yb3⟩) (by assumption) ?rb3
  case yb3 => (intro w hSw; (try dsimp only at hSw); go_simp; try with_reducible rfl)
  try simp only [Act.put, List.setIfInBounds_toArray, List.set_cons_zero, List.set_cons_succ]
  refine wpAnyH_take (i := 6) (oi := _) (v := ?vb6) rfl (by kernel_rfl) (by kernel_rfl) (by kernel_rfl) (fun _ _ _ h => h) (Or.inl ⟨by rfl, ?yb6⟩) (by assumption) ?rb6
  case yb6 => (intro w hSw; (try dsimp only at hSw); go_simp; try with_reducible rfl)
  try simp only [Act.put, List.setIfInBounds_toArray, List.set_cons_zero, List.set_cons_succ]
  refine wpAnyH_take (i := 7) (oi := _) (v := ?vb7) rfl (by kernel_rfl) (by kernel_rfl) (by kernel_rfl) (fun _ _ _ h => h) (Or.inl ⟨by rfl, ?yb7⟩) (by assumption) ?rb7
  case yb7 => (intro w hSw; (try dsimp only at hSw); go_simp; try with_reducible rfl)
  try simp only [Act.put, List.setIfInBounds_toArray, List.set_cons_zero, List.set_cons_succ]
  refine wpAnyH_ready (rs := [4]) (by kernel_rfl) (by simp) ?_
  refine AllReadyH.cons (o := _) rfl (fun KK hKK => ?_) AllReadyH.nil
  go_simp
  refine hKK.out _ _ (by (try dsimp only); go_keep) (fun hHeld => ?_)
  clear hKK KK
  try simp only [Act.put, List.setIfInBounds_toArray, List.set_cons_zero, List.set_cons_succ]
  refine wpAnyH_take (i := 5) (oi := _) (v := ?vb5) rfl (by kernel_rfl) (by kernel_rfl) (by kernel_rfl) (fun _ _ _ h => h) (Or.inl ⟨by rfl, ?yb5⟩) (by assumption) ?rb5
  case yb5 => (intro w hSw; (try dsimp only at hSw); go_simp; try with_reducible rfl)
  try simp only [Act.put, List.setIfInBounds_toArray, List.set_cons_zero, List.set_cons_succ]
  refine wpAnyH_ready (rs := [8]) (by kernel_rfl) (by simp) ?_
  refine AllReadyH.cons (o := _) rfl (fun KK hKK => ?_) AllReadyH.nil
  refine ite_wanted (by kernel_rfl) ?_
  refine wp_app_run (.tmp 23) (.tmp 25) 39 39 rfl (.slice a6 0 c6) (.slice e.sets.p e.sets.n e.sets.c) (.slice d6.p d6.n d6.c) v6 rfl rfl HR6.out ?_
  refine hKK.out _ _ (by (try dsimp only); go_keep) (fun hHeld => ?_)
  clear hKK KK
  try simp only [Act.put, List.setIfInBounds_toArray, List.set_cons_zero, List.set_cons_succ]
  refine wpAnyH_take (i := 9) (oi := _) (v := ?vb9) rfl (by kernel_rfl) (by kernel_rfl) (by kernel_rfl) (fun _ _ _ h => h) (Or.inl ⟨by rfl, ?yb9⟩) (by assumption) ?rb9
  case yb9 => (intro w hSw; (try dsimp only at hSw); go_simp; try with_reducible rfl)
  try simp only [Act.put, List.setIfInBounds_toArray, List.set_cons_zero, List.set_cons_succ]
  refine wpAnyH_take (i := 10) (oi := _) (v := ?vb10) rfl (by kernel_rfl) (by kernel_rfl) (by kernel_rfl) (fun _ _ _ h => h) (Or.inl ⟨by rfl, ?yb10⟩) (by assumption) ?rb10
  case yb10 => (intro w hSw; (try dsimp only at hSw); go_simp; try with_reducible rfl)
  try simp only [Act.put, List.setIfInBounds_toArray, List.set_cons_zero, List.set_cons_succ]
  refine wpAnyH_ready (rs := [11]) (by kernel_rfl) (by simp) ?_
  refine AllReadyH.cons (o := _) rfl (fun KK hKK => ?_) AllReadyH.nil
  go_simp
  refine hKK.out _ _ (by (try dsimp only); go_keep) (fun hHeld => ?_)
  clear hKK KK
  try simp only [Act.put, List.setIfInBounds_toArray, List.set_cons_zero, List.set_cons_succ]
  refine wpAnyH_done (by kernel_rfl) (NoPanic.normal ?_) _
  rw [HW5.out]
  clear e6 l6 l6' hu6 hf6
  go_upto_region 4 with (fail)
  go_upto_region 5 with (
    first
    | ((with_reducible show wpList _ _ _ (⟨_, .load 80 (.tmp 30), _, _, _, _⟩ :: _) _ _); refine lp_load w.heap.size 1 D rfl HLA.out ?_)
    | (go_at_call 29; refine HAc.out.mono ?_; rintro r w6 ⟨K6, C6, d, rfl, hd, hb6, hz6, g6, R6, P6⟩; obtain ⟨E, hE⟩ : ∃ E, d.arr = E := ⟨_, rfl⟩; rw [hE]; have HS6 := hide (HS5.out.step P6 (by simp) hb6); have HEs : Hid (E.size = 15) := (by show _ = _; rw [← hE]; rfl); have HEo : Hid (E.all (·.oneCell') = true) := (by show _ = _; rw [← hE]; exact d.ones); have HE := hide hE; have HD := hide hd; have HZ6 := hide hz6; have HG6 := hide g6; have HR6 := hide R6; have HP6 := hide P6; clear hE hd hb6 hz6 g6 R6 P6)
    | ((with_reducible show wpList _ _ _ (⟨_, .store 80 (.tmp 33) _, _, _, _, _⟩ :: _) _ _); refine lp_store (t := 80) (x := .tmp 33) (some ⟨w.heap.size + 1 + 1, 1, none⟩) (.agg E) rfl rfl (run_storeAt_mid (P := Try.prog) w6 (w.heap.size + 1 + 1) 1 80 E (there_row HS6.out.x 1 E.size (by rw [HEs.out, HZ.out]; omega)) (by rw [HEs.out]; exact Try.sizeA) HEo.out) ?_))
  obtain ⟨w7, hw7⟩ : ∃ w', w6.setCells (w.heap.size + 1 + 1) 1 E.toList = w' := ⟨_, rfl⟩
  rw [hw7]
  have hg7 : w6.grownBy w7 (some (w.heap.size + 1 + 1)) := by rw [← hw7]; exact grown_setCells _ _ _
  have P7 : Kp (fun q => q = (o, 99)) K6 K6 w6 w7 := kp_same hg7 HS6.out.kx
  obtain ⟨X0, hX0⟩ : ∃ X0, putM A 1 E.toList = X0 := ⟨_, rfl⟩
  have hX0e : X0 = (⟨e.po, d, e.oc, e.made, e.sets, e.n, e.fe, e.ge⟩ : Eda).arr := by rw [← hX0, ← HE.out, ← HA.out]; exact putM_act e d
  have hX0s : X0.size = 22 := by rw [hX0e]; rfl
  have S7 : SeA w w7 K6 o b 82 C6 A Z X0 := by
    have h := HS6.out
    have e1 : b ≠ w.heap.size + 1 + 1 := by rintro rfl; have := h.kb; rw [h.kx] at this; simp at this
    refine ⟨(hg7.block _ (lt_of_block h.seat) (by simpa using e1)).trans h.seat, h.kb, (hg7.block _ (lt_of_block h.a) (by simp; omega)).trans h.a, (hg7.block _ (lt_of_block h.z) (by simp)).trans h.z, ?_, h.ka, h.kz, h.kx⟩
    rw [← hw7, ← hX0]
    exact heap_setCells _ _ _ _ h.x
  obtain ⟨q5, q6⟩ := Hq.out
  replace q5 := (HG6.out 5 (by omega)).trans q5
  replace q6 := (HG6.out 6 (by omega)).trans q6
  obtain ⟨w8, hw8, ⟨u17, hu17⟩, hf17, S8, P8⟩ := x_put S7 17 (by omega) (.slice d5.p d5.n d5.c)
  obtain ⟨w9, hw9, ⟨u18, hu18⟩, hf18, S9, P9⟩ := x_put S8 18 (by simp only [Array.size_setIfInBounds]; omega) (.slice d6.p d6.n d6.c)
  have f5 := S7.at q5
  have f6 := S8.at q6
  obtain ⟨X, hX⟩ : ∃ X, (X0.setIfInBounds 17 (.slice d5.p d5.n d5.c)).setIfInBounds 18 (.slice d6.p d6.n d6.c) = X := ⟨_, rfl⟩
  rw [hX] at S9
  have HXb : Hid (X = (⟨e.po, d, e.oc, d5, d6, e.n, e.fe, e.ge⟩ : Eda).arr) := by show _ = _; rw [← hX, hX0e]; rfl
  have HXs : Hid (X.size = 22) := by show _ = _; rw [HXb.out]; rfl
  have HXo : Hid (X.all (·.oneCell') = true) := by show _ = _; rw [HXb.out]; exact Eda.ones _
  have HLX := hide (loadAt_row (P := Try.prog) (ty := 82) S9.x Try.underlying82 rfl (by rw [HXs.out]; exact Try.sizeE))
  have HSX := hide (storeAt_row (P := Try.prog) (c' := X) S9.z (by rw [HXs.out]; exact Try.sizeE) (by rw [HXs.out]; exact HZz.out) HXo.out)
  have HPz := hide ((P7.trans P8).trans P9)
  have HS9 := hide S9
  have HG7 := hide hg7
  have Hqs := hide (And.intro q5 q6)
  have HW8 := hide hw8
  have HW9 := hide hw9
  clear S7 S8 S9 P7 P8 P9 hg7 q5 q6 hw7 hw8 hw9 hX hX0 hX0e hX0s
  go_upto_region 6 with (fail)
  rw [HW8.out]
  clear hu17 hf17 f5
  go_upto_region 7 with (fail)
  rw [HW9.out]
  clear hu18 hf18 f6
  go_wp2_with (
    first
    | ((with_reducible show wpList _ _ _ (⟨_, .load 82 (.tmp 5), _, _, _, _⟩ :: _) _ _); refine lp_load (w.heap.size + 1 + 1) 0 X rfl HLX.out ?_)
    | ((with_reducible show wpList _ _ _ (⟨_, .store 82 (.tmp 4) _, _, _, _, _⟩ :: _) _ _); refine lp_store (t := 82) (x := .tmp 4) (some ⟨w.heap.size + 1, 0, none⟩) (.agg X) rfl rfl HSX.out ?_))
  refine bodyPost_ret (results_cell_row rfl _ _ (w.heap.size + 1) 82 X (0, 0) _ rfl (setRow_heap _ _ _ _ _ _ HS9.out.z) Try.underlying82 rfl (by rw [HXs.out]; exact Try.sizeE)) rfl ?_
  have hPz := HPz.out.setRow (b := w.heap.size + 1) (Or.inr HS9.out.kz) X
  obtain ⟨Q5, Q6⟩ := HQ.out
  obtain ⟨x5, x6⟩ := Hx.out
  obtain ⟨g4, g5⟩ := Hg.out
  obtain ⟨PA, P4, D4, P5⟩ := HPP.out
  obtain ⟨q5, q6⟩ := Hqs.out
  refine ⟨K6, C6, (⟨e.po, d, e.oc, d5, d6, e.n, e.fe, e.ge⟩ : Eda), by rw [HXb.out], by simp only [Eda.d, x5, x6, HD.out], ?_, HZ6.out, ?_, ⟨HR6.out.kept hPz (fun i hi h => by simp at h; omega), ⟨q5, (Q5.kept HP6.out (by simp)).kept hPz (by simp)⟩, ⟨q6, (Q6.kept HP6.out (by simp)).kept hPz (by simp)⟩⟩, ?_⟩
  · refine (setRow_other _ _ _ X ?_).trans HS9.out.seat
    intro e
    have h1 := HS9.out.kb
    rw [e, HS9.out.kz] at h1
    simp at h1
  · intro j hj
    exact (HG6.out j (by omega)).trans ((g5 j (by omega)).trans (g4 j (by omega)))
  · have m2 : ∀ (i : Nat), i ≤ 7 → ∀ q : Nat × Nat, (q = (o, 0) ∨ q = (o, i)) → q.1 = o ∧ q.2 ≤ 7 := fun i hi q h => by
      rcases h with rfl | rfl
      · exact ⟨rfl, by show 0 ≤ 7; omega⟩
      · exact ⟨rfl, hi⟩
    have m0 : ∀ q : Nat × Nat, False → q.1 = o ∧ q.2 ≤ 7 := fun q h => h.elim
    have r6 := ((((PA.mono m0).trans (P4.mono (m2 6 (by omega)))).trans (D4.mono m0)).trans (P5.mono (m2 7 (by omega)))).trans (HP6.out.mono (fun q h => ⟨h.1, by omega⟩))
    have r7 := r6.grownNew HG7.out (by omega)
    have r8 := r7.setCell (b := w.heap.size + 1 + 1) (Or.inl (by omega)) 17 (.slice d5.p d5.n d5.c)
    rw [HW8.out] at r8
    have r9 := r8.setCell (b := w.heap.size + 1 + 1) (Or.inl (by omega)) 18 (.slice d6.p d6.n d6.c)
    rw [HW9.out] at r9
    exact r9.setRow (b := w.heap.size + 1) (Or.inl (by omega)) X
end Go.Proofs.Ytecbidaljchmoaa
namespace Go.Proofs.Ytecbidaljchmoaa
open Go.RowKit

/-- Elements that lie in blocks of kind (0, _): no Seat's. -/
structure SlZ {α : Type} (w : World) (K : Knd) (sz : Nat) (f : α → List Value) (s : Sli α) : Prop where
  ok : SlOk w sz f s
  far : s.xs ≠ [] → ∀ g i, s.p = some ⟨g, i, none⟩ → (K g).1 = 0
theorem SlZ.toK {α : Type} {w : World} {K : Knd} {sz : Nat} {f : α → List Value} {s : Sli α} (h : SlZ w K sz f s) {o : Nat} (ho : 0 < o) : SlK w K o sz f s := ⟨h.ok, fun hne g i e => by rw [h.far hne g i e]; omega⟩
theorem SlZ.kept {α : Type} {p : Nat × Nat → Prop} {w w' : World} {K K' : Knd} {sz : Nat} {f : α → List Value} {s : Sli α} (h : SlZ w K sz f s) (hk : Kp p K K' w w') (hp : ∀ q, p q → 0 < q.1) : SlZ w' K' sz f s := by
  by_cases hne : s.xs = []
  · exact ⟨⟨h.ok.len, h.ok.most, Or.inl (by rw [hne]; rfl)⟩, fun e => absurd hne e⟩
  · rcases h.ok.cel with h1 | ⟨b, i, e, hl, hc⟩
    · exact absurd (by simpa using h1) hne
    · refine ⟨⟨h.ok.len, h.ok.most, Or.inr ⟨b, i, e, Nat.lt_of_lt_of_le hl hk.size, fun j r hr k v hv => ?_⟩⟩, fun _ g i' e' => ?_⟩
      · rw [World.cell?_of_block (w := w) (w' := w') (hk.block b hl (fun e' => by have := hp _ e'; rw [h.far hne b i e] at this; omega))]
        exact hc j r hr k v hv
      · rw [e] at e'
        cases e'
        rw [hk.same b hl]
        exact h.far hne b i e
structure AcdZ (w : World) (K : Knd) (a : Acd) : Prop where
  lines : SlZ w K 2 linc a.lines
  guards : SlZ w K 3 tric a.guards
  sets : SlZ w K 3 tric a.sets
  other : SlZ w K 2 linc a.other
  rights : SlZ w K 3 tric a.rights
theorem AcdZ.kept {p : Nat × Nat → Prop} {w w' : World} {K K' : Knd} {a : Acd} (h : AcdZ w K a) (hk : Kp p K K' w w') (hp : ∀ q, p q → 0 < q.1) : AcdZ w' K' a := ⟨h.lines.kept hk hp, h.guards.kept hk hp, h.sets.kept hk hp, h.other.kept hk hp, h.rights.kept hk hp⟩
theorem AcdZ.toK {w : World} {K : Knd} {a : Acd} (h : AcdZ w K a) {o : Nat} (ho : 0 < o) : AcdK w K o a := ⟨h.lines.toK ho, h.guards.toK ho, h.sets.toK ho, h.other.toK ho, h.rights.toK ho⟩
theorem AcdZ.ok {w : World} {K : Knd} {a : Acd} (h : AcdZ w K a) : AcdOk w a := ⟨h.lines.ok, h.guards.ok, h.sets.ok, h.other.ok, h.rights.ok⟩
structure EdaZ (w : World) (K : Knd) (e : Eda) : Prop where
  ac : AcdZ w K e.ac
  made : SlZ w K 2 linc e.made
  sets : SlZ w K 3 tric e.sets
  wf : ∀ x ∈ e.made.xs, LinWf x
theorem EdaZ.kept {p : Nat × Nat → Prop} {w w' : World} {K K' : Knd} {e : Eda} (h : EdaZ w K e) (hk : Kp p K K' w w') (hp : ∀ q, p q → 0 < q.1) : EdaZ w' K' e := ⟨h.ac.kept hk hp, h.made.kept hk hp, h.sets.kept hk hp, h.wf⟩
theorem EdaZ.toK {w : World} {K : Knd} {e : Eda} (h : EdaZ w K e) {o : Nat} (ho : 0 < o) : EdaK w K o e := ⟨h.ac.toK ho, h.made.toK ho, h.sets.toK ho⟩
theorem EdaZ.ok {w : World} {K : Knd} {e : Eda} (h : EdaZ w K e) : EdaOk w e := ⟨h.ac.ok, h.made.ok, h.sets.ok, h.wf⟩
structure ActsZ (w : World) (K : Knd) (s : Sli Acd) : Prop where
  row : SlZ w K 15 Acd.list s
  each : ∀ a ∈ s.xs, AcdZ w K a
theorem ActsZ.kept {p : Nat × Nat → Prop} {w w' : World} {K K' : Knd} {s : Sli Acd} (h : ActsZ w K s) (hk : Kp p K K' w w') (hp : ∀ q, p q → 0 < q.1) : ActsZ w' K' s := ⟨h.row.kept hk hp, fun a ha => (h.each a ha).kept hk hp⟩
theorem ActsZ.ok {w : World} {K : Knd} {s : Sli Acd} (h : ActsZ w K s) : Acts w s := ⟨h.row.ok, fun a ha => (h.each a ha).ok⟩
structure EntsZ (w : World) (K : Knd) (s : Sli Eda) : Prop where
  row : SlZ w K 22 Eda.list s
  each : ∀ a ∈ s.xs, EdaZ w K a
theorem EntsZ.kept {p : Nat × Nat → Prop} {w w' : World} {K K' : Knd} {s : Sli Eda} (h : EntsZ w K s) (hk : Kp p K K' w w') (hp : ∀ q, p q → 0 < q.1) : EntsZ w' K' s := ⟨h.row.kept hk hp, fun a ha => (h.each a ha).kept hk hp⟩
theorem EntsZ.ok {w : World} {K : Knd} {s : Sli Eda} (h : EntsZ w K s) : Ents w s := ⟨h.row.ok, fun a ha => (h.each a ha).ok⟩

/-- A Seat of one's own, for an act or an entry. -/
structure Sea (w : World) (K : Knd) (o b : Nat) (C : Array Value) : Prop where
  blk : w.heap[b]? = some (.cells C 48 (0, 0))
  sz : C.size = 17
  k : K b = (o, 0)
  s0 : Slot w K o C 0 84 2
  s1 : Slot w K o C 1 84 2
  s2 : Slot w K o C 2 156 3
  s3 : Slot w K o C 3 111 3
  s4 : Slot w K o C 4 78 3
  s5 : Slot w K o C 5 84 2
  s6 : Slot w K o C 6 111 3
theorem Sea.kept {p : Nat × Nat → Prop} {w w' : World} {K K' : Knd} {o b : Nat} {C : Array Value} (h : Sea w K o b C) (hk : Kp p K K' w w') (hp : ∀ i, ¬ p (o, i)) : Sea w' K' o b C :=
  ⟨(hk.block b (lt_of_block h.blk) (by rw [h.k]; exact hp 0)).trans h.blk, h.sz, (hk.same b (lt_of_block h.blk)).trans h.k, h.s0.kept hk (hp _) rfl, h.s1.kept hk (hp _) rfl, h.s2.kept hk (hp _) rfl, h.s3.kept hk (hp _) rfl, h.s4.kept hk (hp _) rfl, h.s5.kept hk (hp _) rfl, h.s6.kept hk (hp _) rfl⟩
theorem slot_of {w : World} {K : Knd} {o j sz n : Nat} {C : Array Value} {e : TypeId} {a : Option Addr} {c : Nat} {ys : List Value} (h : C[j]? = some (.slice a n c) ∧ Rk w K (o, j + 1) e sz (.slice a n c) n ys) : Slot w K o C j e sz := ⟨a, n, c, ys, h.1, h.2⟩
theorem slot_nil {w : World} {K : Knd} {o j sz : Nat} {C : Array Value} {e : TypeId} (h : C[j]? = some (.slice none 0 0)) : Slot w K o C j e sz := ⟨none, 0, 0, [], h, rk_nil _ _ _ _ _⟩
theorem Sea.acted {w w' : World} {K K' : Knd} {o b : Nat} {C C' : Array Value} {d : Acd} (h : Sea w K o b C) (hb : w'.heap[b]? = some (.cells C' 48 (0, 0))) (hz : C'.size = 17) (hg : ∀ j, 5 ≤ j → C'[j]? = C[j]?) (hr : AcRk w' K' o C' d) (hk : Kp (fun q => q.1 = o ∧ q.2 ≤ 5) K K' w w') : Sea w' K' o b C' :=
  ⟨hb, hz, (hk.same b (lt_of_block h.blk)).trans h.k, slot_of hr.lines, slot_of hr.other, slot_of hr.guards, slot_of hr.sets, slot_of hr.rights, h.s5.kept hk (by simp) (hg 5 (by omega)), h.s6.kept hk (by simp) (hg 6 (by omega))⟩
theorem Sea.entered {w w' : World} {K K' : Knd} {o b : Nat} {C C' : Array Value} {d : Eda} (h : Sea w K o b C) (hb : w'.heap[b]? = some (.cells C' 48 (0, 0))) (hz : C'.size = 17) (hr : EnRk w' K' o C' d) (hk : Kp (fun q => q.1 = o ∧ q.2 ≤ 7) K K' w w') : Sea w' K' o b C' :=
  ⟨hb, hz, (hk.same b (lt_of_block h.blk)).trans h.k, slot_of hr.ac.lines, slot_of hr.ac.other, slot_of hr.ac.guards, slot_of hr.ac.sets, slot_of hr.ac.rights, slot_of hr.made, slot_of hr.sets⟩
/-- Pointers to Seats, in a row. -/
def ptc (b : Nat) : List Value := [.pointer (some ⟨b, 0, none⟩)]
theorem elt_ptr : Elt ptc 1 8 46 36 := ⟨fun _ => rfl, fun x u hu => by simp [ptc] at hu; subst hu; rfl, by omega, Try.underlying46, by
  obtain ⟨i, h⟩ := info_parts (show (Try.prog.info? 36).map (fun i => (i.zero, i.size, i.bytes)) = some (some (.pointer none), 1, 8) by kernel_rfl)
  exact ⟨i, _, h.1, h.2.1, h.2.2.1, h.2.2.2, rfl⟩, by omega⟩
theorem elt_act : Elt Acd.list 15 200 27 80 := ⟨fun _ => rfl, fun x u hu => by
  have := Array.all_eq_true_iff_forall_mem.1 x.ones u (by simpa [Acd.arr, Acd.list] using hu); exact this, by omega, Try.underlying27, by
  obtain ⟨i, h⟩ := info_parts (show (Try.prog.info? 80).map (fun i => (i.zero, i.size, i.bytes)) = some (some (.agg #[.int .i64 0, .int .u64 0, .int .i64 0, .bool false, .slice none 0 0, .slice none 0 0, .slice none 0 0, .int .i64 0, .slice none 0 0, .int .i64 0, .int .i64 0, .int .i64 0, .int .i64 0, .int .u64 0, .slice none 0 0]), 15, 200) by kernel_rfl)
  exact ⟨i, _, h.1, h.2.1, h.2.2.1, h.2.2.2, rfl⟩, by omega⟩
theorem elt_entry : Elt Eda.list 22 288 26 82 := ⟨fun _ => rfl, fun x u hu => by
  have := Array.all_eq_true_iff_forall_mem.1 x.ones u (by simpa [Eda.arr, Eda.list] using hu); exact this, by omega, Try.underlying26, by
  obtain ⟨i, h⟩ := info_parts (show (Try.prog.info? 82).map (fun i => (i.zero, i.size, i.bytes)) = some (some (.agg #[.int .u64 0, .int .i64 0, .int .u64 0, .int .i64 0, .bool false, .slice none 0 0, .slice none 0 0, .slice none 0 0, .int .i64 0, .slice none 0 0, .int .i64 0, .int .i64 0, .int .i64 0, .int .i64 0, .int .u64 0, .slice none 0 0, .int .i64 0, .slice none 0 0, .slice none 0 0, .int .i64 0, .int .i64 0, .int .u64 0]), 22, 288) by kernel_rfl)
  exact ⟨i, _, h.1, h.2.1, h.2.2.1, h.2.2.2, rfl⟩, by omega⟩
/-- A Seat for each pointer of the row: the i-th of owner 2 i + par. -/
def Nest (w : World) (K : Knd) (par : Nat) (ps : List Nat) : Prop := ∀ i b, ps[i]? = some b → ∃ C, Sea w K (2 * i + par) b C
theorem Nest.kept {p : Nat × Nat → Prop} {w w' : World} {K K' : Knd} {par : Nat} {ps : List Nat} (h : Nest w K par ps) (hk : Kp p K K' w w') (hp : ∀ i j, ¬ p (2 * i + par, j)) : Nest w' K' par ps := fun i b hi => by
  obtain ⟨C, hC⟩ := h i b hi
  exact ⟨C, hC.kept hk (hp i)⟩
/-- What a call on the Seat of one may turn. -/
def turn (par j : Nat) (q : Nat × Nat) : Prop := (q.1 = 1 ∧ (q.2 = 0 ∨ q.2 = j + 1 ∨ q.2 = j + 1 + 1)) ∨ ∃ i, q.1 = 2 * i + par
/-- While a list is laid, one by one. -/
structure Lp {α : Type} (f : α → List Value) (sz : Nat) (e : TypeId) (R : World → Knd → Nat → α → Prop) (par j : Nat) (w wr : World) (K0 K : Knd) (b : Nat) (C0 C : Array Value) (k : Nat) (ps : List Nat) (ds : List α) : Prop where
  blk : wr.heap[b]? = some (.cells C 48 (0, 0))
  z : C.size = 17
  kb : K b = (1, 0)
  row : ∃ a c, C[j]? = some (.slice a k c) ∧ Rk wr K (1, j + 1) e sz (.slice a k c) k (flat f ds)
  ptr : ∃ a c, C[j + 1]? = some (.slice a ps.length c) ∧ Rk wr K (1, j + 1 + 1) 36 1 (.slice a ps.length c) ps.length (flat ptc ps)
  few : ps.length ≤ 4194304
  nest : Nest wr K par ps
  laid : ∀ i d, ds[i]? = some d → R wr K (2 * i + par) d
  len : ds.length = k
  oth : ∀ i, i ≠ j → i ≠ j + 1 → C[i]? = C0[i]?
  kp : Kp (turn par j) K0 K w wr
/-- What is laid is kept where nothing of its owner turns. -/
def KeptR {α : Type} (R : World → Knd → Nat → α → Prop) : Prop := ∀ (p : Nat × Nat → Prop) (K K' : Knd) (w w' : World) (o : Nat) (d : α), R w K o d → Kp p K K' w w' → (∀ i, ¬ p (o, i)) → R w' K' o d
theorem Lp.drew {α : Type} {f : α → List Value} {sz : Nat} {e : TypeId} {R : World → Knd → Nat → α → Prop} {par j : Nat} {w wr : World} {K0 K : Knd} {b : Nat} {C0 C : Array Value} {k : Nat} {ps : List Nat} {ds : List α} (hR : KeptR R) (h : Lp f sz e R par j w wr K0 K b C0 C k ps ds) : Lp f sz e R par j w wr.drew K0 K b C0 C k ps ds := by
  have hk : Kp (fun _ => False) K K wr wr.drew := (Kp.refl _ _ _).drew
  obtain ⟨a, c, h1, h2⟩ := h.row
  obtain ⟨a', c', h3, h4⟩ := h.ptr
  exact ⟨h.blk, h.z, h.kb, ⟨a, c, h1, h2.kept hk (fun h => h)⟩, ⟨a', c', h3, h4.kept hk (fun h => h)⟩, h.few, h.nest.kept hk (fun _ _ h => h), fun i d hd => hR _ _ _ _ _ _ _ (h.laid i d hd) hk (fun _ h => h), h.len, h.oth, h.kp.drew⟩
theorem set_at {C : Array Value} {j : Nat} (h : C.size = 17) (hj : j < 17) (v : Value) : (C.setIfInBounds j v)[j]? = some v := Array.getElem?_setIfInBounds_self_of_lt (by rw [h]; exact hj)
theorem set_off {C : Array Value} {i j : Nat} (v : Value) (hi : i ≠ j) : (C.setIfInBounds j v)[i]? = C[i]? := Array.getElem?_setIfInBounds_ne (Ne.symm hi)
/-- The row of the last call, cut to none. -/
theorem Lp.start {α : Type} {f : α → List Value} {sz : Nat} {e : TypeId} {R : World → Knd → Nat → α → Prop} {par j : Nat} {w : World} {K : Knd} {b : Nat} {C : Array Value} (hpar : 2 ≤ par) (hj : j + 1 < 17) (hb : w.heap[b]? = some (.cells C 48 (0, 0))) (hz : C.size = 17) (hk : K b = (1, 0)) {a : Option Addr} {n c : Nat} {ys : List Value} (h0 : C[j]? = some (.slice a n c)) (hr : Rk w K (1, j + 1) e sz (.slice a n c) n ys) {ps : List Nat} (hp : ∃ a c, C[j + 1]? = some (.slice a ps.length c) ∧ Rk w K (1, j + 1 + 1) 36 1 (.slice a ps.length c) ps.length (flat ptc ps)) (hf : ps.length ≤ 4194304) (hn : Nest w K par ps) :
    Lp f sz e R par j w (w.setCell ⟨b, j, none⟩ (.slice a 0 c)) K K b C (C.setIfInBounds j (.slice a 0 c)) 0 ps [] := by
  have hkp : Kp (fun q => q = (1, 0)) K K w (w.setCell ⟨b, j, none⟩ (.slice a 0 c)) := Kp.setCell (p := fun q => q = (1, 0)) (b := b) (Kp.refl _ _ _) (Or.inr hk) _ _
  have h1 : Rk w K (1, j + 1) e sz (.slice a 0 c) 0 [] := ⟨own_cut hr.own, fun g hg => hr.kind g (by cases a with
    | none => simp [Value.ownBlock] at hg
    | some x => simpa [Value.ownBlock] using hg)⟩
  obtain ⟨a', c', e1, e2⟩ := hp
  exact ⟨heap_setCell_same _ _ _ _ _ _ hb, by rw [Array.size_setIfInBounds]; exact hz, hk, ⟨a, c, set_at hz (by omega) _, by simpa [flat] using h1.kept hkp (by simp)⟩, ⟨a', c', (set_off _ (by omega)).trans e1, e2.kept hkp (by simp)⟩, hf, hn.kept hkp (fun i j h => by simp at h; omega), fun i d hd => by simp at hd, rfl, fun i h1 _ => set_off _ h1, hkp.mono (fun q h => Or.inl (by rw [h]; exact ⟨rfl, Or.inl rfl⟩))⟩
theorem cel_one {w : World} {A : Array Value} {l : List Value} {sz : Nat} {t : TypeId} (h : A.toList = l) : Cel (w.alloc (.cells A t)) (some ⟨w.heap.size, 0, none⟩) sz [l] := by
  refine Or.inr ⟨_, 0, rfl, by simp, fun i r hr j v hv => ?_⟩
  cases i with
  | zero =>
    simp at hr
    subst hr
    rw [cell_of_row _ _ _ _ _ _ (heap_alloc_new w (.cells A t)), ← h] at *
    simpa using hv
  | succ i => simp at hr
end Go.Proofs.Ytecbidaljchmoaa
namespace Go.Proofs.Ytecbidaljchmoaa
open Go.RowKit

theorem Nest.snoc {w : World} {K : Knd} {par : Nat} {ps : List Nat} (h : Nest w K par ps) {b : Nat} {C : Array Value} (hs : Sea w K (2 * ps.length + par) b C) : Nest w K par (ps ++ [b]) := fun i b' hi => by
  rw [List.getElem?_append] at hi
  split at hi
  · exact h i b' hi
  · cases hd : i - ps.length with
    | zero =>
      rw [hd] at hi
      simp at hi
      subst hi
      exact ⟨C, by rw [show i = ps.length by omega]; exact hs⟩
    | succ n => rw [hd] at hi; simp at hi
/-- One Seat more. -/
theorem Lp.more {α : Type} {f : α → List Value} {sz : Nat} {e : TypeId} {R : World → Knd → Nat → α → Prop} {par j : Nat} {w wr : World} {K0 K : Knd} {b : Nat} {C0 C : Array Value} {k : Nat} {ps : List Nat} {ds : List α} (hR : KeptR R) (hpar : 2 ≤ par) (hj : j + 1 < 17) (h : Lp f sz e R par j w wr K0 K b C0 C k ps ds) (hlt : ps.length < 4194304) {a : Option Addr} {c : Nat} (h0 : C[j + 1]? = some (.slice a ps.length c)) (tt : TypeId) :
    ∃ a' c' w3 K', (Builtin.append_ #[46, 46] tt #[.slice a ps.length c, .slice (some ⟨wr.heap.size + 1, 0, none⟩) 1 1]).run Try.prog ((wr.alloc (.cells #[.slice none 0 0, .slice none 0 0, .slice none 0 0, .slice none 0 0, .slice none 0 0, .slice none 0 0, .slice none 0 0, .slice none 0 0, .slice none 0 0, .slice none 0 0, .slice none 0 0, .slice none 0 0, .slice none 0 0, .slice none 0 0, .slice none 0 0, .slice none 0 0, .slice none 0 0] 48)).alloc (.cells #[.pointer (some ⟨wr.heap.size, 0, none⟩)] 36)) = .ok (.slice a' (ps.length + 1) c') w3 ∧
      w3.cell? ⟨b, j + 1, none⟩ = some (.slice a ps.length c) ∧ w3.frozen? ⟨b, j + 1, none⟩ = false ∧
      Lp f sz e R par j w (w3.setCell ⟨b, j + 1, none⟩ (.slice a' (ps.length + 1) c')) K0 K' b C0 (C.setIfInBounds (j + 1) (.slice a' (ps.length + 1) c')) k (ps ++ [wr.heap.size]) ds := by
  obtain ⟨Z, hZ⟩ : ∃ Z : Array Value, #[.slice none 0 0, .slice none 0 0, .slice none 0 0, .slice none 0 0, .slice none 0 0, .slice none 0 0, .slice none 0 0, .slice none 0 0, .slice none 0 0, .slice none 0 0, .slice none 0 0, .slice none 0 0, .slice none 0 0, .slice none 0 0, .slice none 0 0, .slice none 0 0, .slice none 0 0] = Z := ⟨_, rfl⟩
  have hz : ∀ i, i < 7 → Z[i]? = some (.slice none 0 0) := fun i hi => by
    rw [← hZ]
    match i, hi with
    | 0, _ => rfl
    | 1, _ => rfl
    | 2, _ => rfl
    | 3, _ => rfl
    | 4, _ => rfl
    | 5, _ => rfl
    | 6, _ => rfl
  have hzs : Z.size = 17 := by rw [← hZ]; rfl
  rw [hZ]
  obtain ⟨w2, hw2⟩ : ∃ w2, (wr.alloc (.cells Z 48)).alloc (.cells #[.pointer (some ⟨wr.heap.size, 0, none⟩)] 36) = w2 := ⟨_, rfl⟩
  have hcel : Cel w2 (some ⟨wr.heap.size + 1, 0, none⟩) 1 ([wr.heap.size].map ptc) := by
    rw [← hw2]
    have := cel_one (w := wr.alloc (.cells Z 48)) (A := #[.pointer (some ⟨wr.heap.size, 0, none⟩)]) (sz := 1) (t := 36) rfl
    simpa [ptc] using this
  have hbz : w2.heap[wr.heap.size]? = some (.cells Z 48 (0, 0)) := by rw [← hw2, Below.heap_alloc _ _ _ (by simp)]; exact heap_alloc_new _ _
  have hb2 : Below wr.heap.size wr w2 := by rw [← hw2]; exact ((Below.refl _ wr).alloc (Nat.le_refl _) _).alloc (by simp) _
  have hs2 : w2.heap.size = wr.heap.size + 1 + 1 := by rw [← hw2]; simp
  rw [hw2]
  obtain ⟨K2, hK2⟩ : ∃ K2, ext (ext K wr.heap.size (2 * ps.length + par, 0)) (wr.heap.size + 1) (1, j + 1 + 1) = K2 := ⟨_, rfl⟩
  have hk2 : Kp (fun _ => False) K K2 wr w2 := (kp_below hb2 _ K (0, 0)).cong (fun g hg => by rw [← hK2, ext_old _ _ (by omega), ext_old _ _ hg, ext_old _ _ hg])
  have hkz : K2 wr.heap.size = (2 * ps.length + par, 0) := by rw [← hK2, ext_old _ _ (by omega), ext_new _ _ (Nat.le_refl _)]
  obtain ⟨a1, c1, e1, r1⟩ := h.ptr
  rw [h0] at e1
  cases e1
  have R2 := r1.kept hk2 (fun h => h)
  obtain ⟨v', w3, hrun, h2, h3, h4⟩ := elt_ptr.run_append_at w2 tt 0 ps.length (.slice a ps.length c) (flat ptc ps) R2.own (some ⟨wr.heap.size + 1, 0, none⟩) 1 1 [wr.heap.size] rfl hcel (by omega) (Nat.zero_le _)
  obtain ⟨a', c', rfl, _⟩ := slice_form h2
  have R3 := R2.grown h2 (h4.imp id (fun e => ⟨_, e, Nat.le_refl _⟩))
  have kp3 : Kp (fun q => q = (1, j + 1 + 1)) K2 (ext K2 w2.heap.size (1, j + 1 + 1)) w2 w3 := kp_grown h3 K2 (1, j + 1 + 1) (1, j + 1 + 1) _ R2.kind rfl
  obtain ⟨K3, hK3⟩ : ∃ K3, ext K2 w2.heap.size (1, j + 1 + 1) = K3 := ⟨_, rfl⟩
  rw [hK3] at R3 kp3
  have hlb : b < wr.heap.size := lt_of_block h.blk
  have hkb2 : K2 b = (1, 0) := (hk2.same b hlb).trans h.kb
  have hlb2 : b < w2.heap.size := Nat.lt_of_lt_of_le hlb hk2.size
  have hkb3 : K3 b = (1, 0) := (kp3.same b hlb2).trans hkb2
  have hblk3 : w3.heap[b]? = some (.cells C 48 (0, 0)) := (kp3.block b hlb2 (by rw [hkb2]; simp)).trans ((hk2.block b hlb (fun h => h)).trans h.blk)
  have kp4 : Kp (fun q => q = (1, 0)) K3 K3 w3 (w3.setCell ⟨b, j + 1, none⟩ (.slice a' (ps.length + 1) c')) := Kp.setCell (p := fun q => q = (1, 0)) (b := b) (Kp.refl _ _ _) (Or.inr hkb3) _ _
  have kp34 : Kp (fun q => q = (1, 0) ∨ q = (1, j + 1 + 1)) K2 K3 w2 (w3.setCell ⟨b, j + 1, none⟩ (.slice a' (ps.length + 1) c')) := (kp3.mono (fun q h => Or.inr h)).trans (kp4.mono (fun q h => Or.inl h))
  have kpT : Kp (fun q => q = (1, 0) ∨ q = (1, j + 1 + 1)) K K3 wr (w3.setCell ⟨b, j + 1, none⟩ (.slice a' (ps.length + 1) c')) := (hk2.mono (fun q h => h.elim)).trans kp34
  obtain ⟨ar, cr, er, rr⟩ := h.row
  have hne : ∀ i l, ¬ ((2 * i + par, l) = ((1, 0) : Nat × Nat) ∨ (2 * i + par, l) = (1, j + 1 + 1)) := fun i l h => by simp at h; omega
  refine ⟨a', c', w3, K3, hrun, by rw [cell_of_row _ _ _ _ _ _ hblk3]; exact h0, frozen_of_row _ _ _ _ _ hblk3, heap_setCell_same _ _ _ _ _ _ hblk3, by rw [Array.size_setIfInBounds]; exact h.z, hkb3, ⟨ar, cr, (set_off _ (by omega)).trans er, rr.kept kpT (by simp)⟩, ⟨a', c', ?_, ?_⟩, by simp; omega, ?_, fun i d hd => hR _ _ _ _ _ _ _ (h.laid i d hd) kpT (hne i), h.len, fun i h1 h2 => (set_off _ h2).trans (h.oth i h1 h2), h.kp.trans (kpT.mono (fun q hq => Or.inl ?_))⟩
  · rw [set_at h.z hj]; simp
  · have := R3.kept kp4 (by simp)
    simpa [flat] using this
  · refine (h.nest.kept kpT hne).snoc (C := Z) ?_
    have s0 : Sea w2 K2 (2 * ps.length + par) wr.heap.size Z := ⟨hbz, hzs, hkz, slot_nil (hz 0 (by omega)), slot_nil (hz 1 (by omega)), slot_nil (hz 2 (by omega)), slot_nil (hz 3 (by omega)), slot_nil (hz 4 (by omega)), slot_nil (hz 5 (by omega)), slot_nil (hz 6 (by omega))⟩
    exact s0.kept kp34 (hne ps.length)
  · rcases hq with rfl | rfl
    · exact ⟨rfl, Or.inl rfl⟩
    · exact ⟨rfl, Or.inr (Or.inr rfl)⟩
/-- One element more. -/
theorem Lp.next {α : Type} {f : α → List Value} {sz by_ : Nat} {t e : TypeId} (E : Elt f sz by_ t e) {R : World → Knd → Nat → α → Prop} {par j : Nat} {w wr : World} {K0 K : Knd} {b : Nat} {C0 C : Array Value} {k : Nat} {ps : List Nat} {ds : List α} (hR : KeptR R) (hpar : 2 ≤ par) (hj : j + 1 < 17) (h : Lp f sz e R par j w wr K0 K b C0 C k ps ds) (hlt : k < 4194304) {a : Option Addr} {c : Nat} (h0 : C[j]? = some (.slice a k c)) {bk : Nat} (hbk : ps[k]? = some bk) {w1 : World} {K1 : Knd} {C1 : Array Value} {d : α} (hs : Sea w1 K1 (2 * k + par) bk C1) (hr : R w1 K1 (2 * k + par) d) (hk : Kp (fun q => q.1 = 2 * k + par) K K1 wr w1) (A : Array Value) (hA : A.toList = f d) (tt : TypeId) :
    ∃ a' c' w3 K', (Builtin.append_ #[t, t] tt #[.slice a k c, .slice (some ⟨w1.heap.size, 0, none⟩) 1 1]).run Try.prog (w1.alloc (.cells A e)) = .ok (.slice a' (k + 1) c') w3 ∧
      w3.cell? ⟨b, j, none⟩ = some (.slice a k c) ∧ w3.frozen? ⟨b, j, none⟩ = false ∧ Kp (fun q => q.1 = 2 * k + par ∨ q = (1, j + 1)) K K' wr w3 ∧
      Lp f sz e R par j w (w3.setCell ⟨b, j, none⟩ (.slice a' (k + 1) c')) K0 K' b C0 (C.setIfInBounds j (.slice a' (k + 1) c')) (k + 1) ps (ds ++ [d]) := by
  obtain ⟨w2, hw2⟩ : ∃ w2, w1.alloc (.cells A e) = w2 := ⟨_, rfl⟩
  have hcel : Cel w2 (some ⟨w1.heap.size, 0, none⟩) sz ([d].map f) := by
    rw [← hw2]
    exact cel_one hA
  have hb2 : Below w1.heap.size w1 w2 := by rw [← hw2]; exact (Below.refl _ w1).alloc (Nat.le_refl _) _
  rw [hw2]
  have hk2 : Kp (fun _ => False) K1 (ext K1 w1.heap.size (1, j + 1)) w1 w2 := kp_below hb2 _ K1 _
  obtain ⟨K2, hK2⟩ : ∃ K2, ext K1 w1.heap.size (1, j + 1) = K2 := ⟨_, rfl⟩
  rw [hK2] at hk2
  obtain ⟨a1, c1, e1, r1⟩ := h.row
  rw [h0] at e1
  cases e1
  have R2 := (r1.kept hk (by simp; omega)).kept hk2 (fun h => h)
  obtain ⟨v', w3, hrun, h2, h3, h4⟩ := E.run_append_at w2 tt 0 k (.slice a k c) (flat f ds) R2.own (some ⟨w1.heap.size, 0, none⟩) 1 1 [d] rfl hcel (by omega) (Nat.zero_le _)
  obtain ⟨a', c', rfl, _⟩ := slice_form h2
  have R3 := R2.grown h2 (h4.imp id (fun e => ⟨_, e, Nat.le_refl _⟩))
  have kp3 : Kp (fun q => q = (1, j + 1)) K2 (ext K2 w2.heap.size (1, j + 1)) w2 w3 := kp_grown h3 K2 (1, j + 1) (1, j + 1) _ R2.kind rfl
  obtain ⟨K3, hK3⟩ : ∃ K3, ext K2 w2.heap.size (1, j + 1) = K3 := ⟨_, rfl⟩
  rw [hK3] at R3 kp3
  have kpW : Kp (fun q => q.1 = 2 * k + par ∨ q = (1, j + 1)) K K3 wr w3 := ((hk.mono (fun q h => Or.inl h)).trans (hk2.mono (fun q h => h.elim))).trans (kp3.mono (fun q h => Or.inr h))
  have hlb : b < wr.heap.size := lt_of_block h.blk
  have hkb3 : K3 b = (1, 0) := (kpW.same b hlb).trans h.kb
  have hblk3 : w3.heap[b]? = some (.cells C 48 (0, 0)) := (kpW.block b hlb (by rw [h.kb]; simp; omega)).trans h.blk
  have kp4 : Kp (fun q => q = (1, 0)) K3 K3 w3 (w3.setCell ⟨b, j, none⟩ (.slice a' (k + 1) c')) := Kp.setCell (p := fun q => q = (1, 0)) (b := b) (Kp.refl _ _ _) (Or.inr hkb3) _ _
  have kp14 : Kp (fun q => q = (1, 0) ∨ q = (1, j + 1)) K1 K3 w1 (w3.setCell ⟨b, j, none⟩ (.slice a' (k + 1) c')) := ((hk2.mono (fun q h => h.elim)).trans (kp3.mono (fun q h => Or.inr h))).trans (kp4.mono (fun q h => Or.inl h))
  have kpT : Kp (fun q => q.1 = 2 * k + par ∨ q = (1, 0) ∨ q = (1, j + 1)) K K3 wr (w3.setCell ⟨b, j, none⟩ (.slice a' (k + 1) c')) := (hk.mono (fun q h => Or.inl h)).trans (kp14.mono (fun q h => Or.inr h))
  obtain ⟨ap, cp, ep, rp⟩ := h.ptr
  have hne1 : ∀ l, ¬ ((2 * k + par, l) = ((1, 0) : Nat × Nat) ∨ (2 * k + par, l) = (1, j + 1)) := fun l h => by simp at h; omega
  have hne : ∀ i l, i ≠ k → ¬ ((2 * i + par, l).1 = 2 * k + par ∨ (2 * i + par, l) = ((1, 0) : Nat × Nat) ∨ (2 * i + par, l) = (1, j + 1)) := fun i l hi h => by simp at h; omega
  refine ⟨a', c', w3, K3, hrun, by rw [cell_of_row _ _ _ _ _ _ hblk3]; exact h0, frozen_of_row _ _ _ _ _ hblk3, kpW, heap_setCell_same _ _ _ _ _ _ hblk3, by rw [Array.size_setIfInBounds]; exact h.z, hkb3, ⟨a', c', set_at h.z (by omega) _, ?_⟩, ⟨ap, cp, (set_off _ (by omega)).trans ep, rp.kept kpT (by simp; omega)⟩, h.few, ?_, ?_, by simp [h.len], fun i h1 h2 => (set_off _ h1).trans (h.oth i h1 h2), h.kp.trans (kpT.mono (fun q hq => ?_))⟩
  · have := R3.kept kp4 (by simp)
    simpa [flat] using this
  · intro i bi hi
    by_cases e : i = k
    · subst e
      rw [hbk] at hi
      cases hi
      exact ⟨C1, hs.kept kp14 hne1⟩
    · obtain ⟨Ci, hCi⟩ := h.nest i bi hi
      exact ⟨Ci, hCi.kept kpT (fun l => hne i l e)⟩
  · intro i x hi
    rw [List.getElem?_append] at hi
    split at hi
    · rename_i hl
      exact hR _ _ _ _ _ _ _ (h.laid i x hi) kpT (fun l => hne i l (by rw [h.len] at hl; omega))
    · cases hd : i - ds.length with
      | zero =>
        rw [hd] at hi
        simp at hi
        subst hi
        have : i = k := by have := h.len; omega
        subst this
        exact hR _ _ _ _ _ _ _ hr kp14 hne1
      | succ n => rw [hd] at hi; simp at hi
  · rcases hq with hq | rfl | rfl
    · exact Or.inr ⟨k, hq⟩
    · exact Or.inl ⟨rfl, Or.inl rfl⟩
    · exact Or.inl ⟨rfl, Or.inr (Or.inl rfl)⟩
/-- What is laid of an act, of an entry. -/
def RA (w : World) (K : Knd) (o : Nat) (d : Acd) : Prop := ∃ C, AcRk w K o C d
def RE (w : World) (K : Knd) (o : Nat) (d : Eda) : Prop := ∃ C, EnRk w K o C d
theorem EnRk.kept {p : Nat × Nat → Prop} {w w' : World} {K K' : Knd} {o : Nat} {C : Array Value} {a : Eda} (h : EnRk w K o C a) (hk : Kp p K K' w w') (hp : ∀ i, ¬ p (o, i)) : EnRk w' K' o C a := ⟨h.ac.kept hk (fun i _ => hp i), ⟨h.made.1, h.made.2.kept hk (hp _)⟩, ⟨h.sets.1, h.sets.2.kept hk (hp _)⟩⟩
theorem kept_RA : KeptR RA := fun _ _ _ _ _ _ _ ⟨C, h⟩ hk hp => ⟨C, h.kept hk (fun i _ => hp i)⟩
theorem kept_RE : KeptR RE := fun _ _ _ _ _ _ _ ⟨C, h⟩ hk hp => ⟨C, h.kept hk hp⟩
theorem slok_of {α : Type} {f : α → List Value} {sz by_ : Nat} {t e : TypeId} (E : Elt f sz by_ t e) {w : World} {K : Knd} {k : Nat × Nat} {s : Sli α} (h : Rk w K k e sz (.slice s.p s.n s.c) s.n (flat f s.xs)) (hm : s.xs.length ≤ 4194304) : SlOk w sz f s := by
  have hl : s.xs.length = s.n := by
    have h1 := h.own.1
    rw [flat_len E.len] at h1
    exact Nat.eq_of_mul_eq_mul_right E.pos h1
  exact ⟨hl, by omega, cel_row E.len h.own hl⟩
theorem RA.ok {w : World} {K : Knd} {o : Nat} {d a : Acd} (h : RA w K o d) (hd : d.d = a.d) {w' : World} (ha : AcdOk w' a) : AcdOk w d := by
  obtain ⟨C, h⟩ := h
  simp only [Acd.d, AcP.mk.injEq] at hd
  obtain ⟨_, _, _, _, e1, e2, e3, _, e4, _, _, _, _, _, e5⟩ := hd
  refine ⟨slok_of elt_line h.lines.2 ?_, slok_of elt_guard h.guards.2 ?_, slok_of elt_set h.sets.2 ?_, slok_of elt_line h.other.2 ?_, slok_of elt_right h.rights.2 ?_⟩
  · rw [e1, ha.lines.len]; exact ha.lines.most
  · rw [e2, ha.guards.len]; exact ha.guards.most
  · rw [e3, ha.sets.len]; exact ha.sets.most
  · rw [e4, ha.other.len]; exact ha.other.most
  · rw [e5, ha.rights.len]; exact ha.rights.most
theorem RE.ok {w : World} {K : Knd} {o : Nat} {d a : Eda} (h : RE w K o d) (hd : d.d = a.d) {w' : World} (ha : EdaOk w' a) : EdaOk w d := by
  obtain ⟨C, h⟩ := h
  simp only [Eda.d, EnP.mk.injEq] at hd
  obtain ⟨_, e1, _, e2, e3, _, _, _⟩ := hd
  refine ⟨RA.ok ⟨C, h.ac⟩ e1 ha.ac, slok_of elt_line h.made.2 ?_, slok_of elt_set h.sets.2 ?_, by rw [e2]; exact ha.wf⟩
  · rw [e2, ha.made.len]; exact ha.made.most
  · rw [e3, ha.sets.len]; exact ha.sets.most
end Go.Proofs.Ytecbidaljchmoaa
