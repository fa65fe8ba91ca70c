import Derived.RegionTactic
import Derived.BigRegion
import Derived.Test.YtjcdnclfakmbpaaGreatDoorCFind4
namespace Go.Proofs.YtjcdnclfakmbpaaGreatDoor.C
open Go.RowKit
attribute [local go_sem ↓] Go.wp_at_zero Go.wp_at_succ
structure But (b : Nat) (w w' : World) : Prop where
  os : w'.os = w.os
  tape : w'.tape = w.tape
  output : w'.output = w.output
  size : w.heap.size ≤ w'.heap.size
  block : ∀ k, k < w.heap.size → k ≠ b → w'.heap[k]? = w.heap[k]?
theorem But.refl (b : Nat) (w : World) : But b w w := ⟨rfl, rfl, rfl, Nat.le_refl _, fun _ _ _ => rfl⟩
theorem But.trans {b : Nat} {w1 w2 w3 : World} (h : But b w1 w2) (k : But b w2 w3) : But b w1 w3 :=
  ⟨k.os.trans h.os, k.tape.trans h.tape, k.output.trans h.output, Nat.le_trans h.size k.size, fun i hi hb => (k.block i (Nat.lt_of_lt_of_le hi h.size) hb).trans (h.block i hi hb)⟩
theorem but_of {w w' : World} (h : Below w.heap.size w w') (b : Nat) : But b w w' := ⟨h.os, h.tape, h.output, h.size, fun k hk _ => h.block k hk⟩
theorem But.setCell {b : Nat} {w w' : World} (h : But b w w') {p : Addr} (hp : p.block = b ∨ w.heap.size ≤ p.block) (u : Value) : But b w (w'.setCell p u) :=
  ⟨h.os, h.tape, h.output, by have := h.size; simp [World.setCell]; omega, fun k hk hb => by rw [Below.heap_setCell _ _ _ _ (by omega)]; exact h.block k hk hb⟩
theorem But.alloc {b : Nat} {w w' : World} (h : But b w w') (o : Obj) : But b w (w'.alloc o) :=
  ⟨h.os, h.tape, h.output, by have := h.size; simp; omega, fun k hk hb => by rw [Below.heap_alloc _ _ _ (by have := h.size; omega)]; exact h.block k hk hb⟩
theorem But.drew {b : Nat} {w w' : World} (h : But b w w') : But b w w'.drew := ⟨h.os, h.tape, h.output, h.size, h.block⟩
theorem But.set3 {b : Nat} {w w' : World} (h : But b w w') (p : Nat) (hp : w.heap.size ≤ p) (x y z : Value) : But b w (((w'.setCell ⟨p, 0, none⟩ x).setCell ⟨p, 1, none⟩ y).setCell ⟨p, 2, none⟩ z) :=
  ((h.setCell (Or.inr hp) _).setCell (Or.inr hp) _).setCell (Or.inr hp) _
theorem But.below {b B : Nat} {w0 w w' : World} (h : But b w w') (k : Below B w0 w) (hb : B ≤ b) (hB : B ≤ w.heap.size) : Below B w0 w' :=
  ⟨h.os.trans k.os, h.tape.trans k.tape, h.output.trans k.output, Nat.le_trans k.size h.size, fun i hi => (h.block i (by omega) (by omega)).trans (k.block i hi)⟩
structure Rd (w : World) (b h : Nat) (xs : List Nat) (at' f : Nat) : Prop where
  blk : w.heap[b]? = some (.cells #[.slice (some ⟨h, 0, none⟩) xs.length xs.length, .int .i64 (at' : Int), .int .i64 (f : Int)] 139 (0, 0))
  held : Bytes w (some ⟨h, 0, none⟩) xs
  len : xs.length ≤ 140737488355328
  le : at' ≤ xs.length
theorem lt_of_block {w : World} {b : Nat} {o : Obj} (h : w.heap[b]? = some o) : b < w.heap.size := (Array.getElem?_eq_some_iff.1 h).1
theorem Rd.lt {w : World} {b h : Nat} {xs : List Nat} {at' f : Nat} (r : Rd w b h xs at' f) : b < w.heap.size := lt_of_block r.blk
theorem not_bytes' {w : World} {g b o : Nat} {x : Nat} {x1 x3 : Int} {a : Option Addr} {n c : Nat} {t : TypeId} (hb : w.heap[b]? = some (.cells #[.slice a n c, .int .i64 x1, .int .i64 x3] t (0, 0))) (h : w.cell? ⟨g, o, none⟩ = some (.int .u8 x)) : g ≠ b := by
  rintro rfl
  simp only [World.cell?, hb] at h
  match o, h with
  | 0, h => simp at h
  | 1, h => simp at h
  | 2, h => simp at h
  | n + 3, h => simp at h
theorem Rd.but {w w' : World} {b h : Nat} {xs : List Nat} {at' f at2 f2 : Nat} (r : Rd w b h xs at' f) (k : But b w w') (hle : at2 ≤ xs.length)
    (hb : w'.heap[b]? = some (.cells #[.slice (some ⟨h, 0, none⟩) xs.length xs.length, .int .i64 (at2 : Int), .int .i64 (f2 : Int)] 139 (0, 0))) : Rd w' b h xs at2 f2 :=
  ⟨hb, r.held.kept b (fun i hi hl => k.block i hl hi) k.size (fun _ _ _ => not_bytes' r.blk), r.len, hle⟩
theorem Rd.below {w w' : World} {b h : Nat} {xs : List Nat} {at' f : Nat} (r : Rd w b h xs at' f) (k : Below w.heap.size w w') : Rd w' b h xs at' f :=
  ⟨(k.block b r.lt).trans r.blk, r.held.below k, r.len, r.le⟩
theorem block_set {w : World} {g i : Nat} {cs : Array Value} {t : TypeId} {fr : Nat × Nat} (h : w.heap[g]? = some (.cells cs t fr)) (v : Value) : (w.setCell ⟨g, i, none⟩ v).heap[g]? = some (.cells (cs.setIfInBounds i v) t fr) := by
  rw [setCell_eq_setRow w g i cs t fr v h]
  exact setRow_heap w g _ _ t _ h
theorem heap_alloc_two (w : World) (A B : Obj) : ((w.alloc A).alloc B).drew.heap[w.heap.size + 1]? = some B := by
  have h := heap_alloc_new (w.alloc A) B
  rw [show (w.alloc A).heap.size = w.heap.size + 1 by simp] at h
  exact h
theorem drew_block (w : World) (b : Nat) : w.drew.heap[b]? = w.heap[b]? := rfl
theorem set3_other (w : World) {b p : Nat} (h : b ≠ p) (x y z : Value) : (((w.setCell ⟨p, 0, none⟩ x).setCell ⟨p, 1, none⟩ y).setCell ⟨p, 2, none⟩ z).heap[b]? = w.heap[b]? := by
  rw [Below.heap_setCell _ _ _ _ h, Below.heap_setCell _ _ _ _ h, Below.heap_setCell _ _ _ _ h]
set_option maxRecDepth 100000 in
set_option maxHeartbeats 400000 in
theorem fail_first (w : World) (b : Nat) (v0 v1 : Value) (t : TypeId) (e : Int) (hb : w.heap[b]? = some (.cells #[v0, v1, .int .i64 0] t (0, 0))) :
    Calls Tryz.prog 131 #[.pointer (some ⟨b, 0, none⟩), .int .i64 e] w fun r w' => r = .returned (.tuple #[]) ∧ w' = w.setCell ⟨b, 2, none⟩ (.int .i64 e) := by
  obtain ⟨q0, q1, q2, qf⟩ := blk3 hb
  clear hb
  go_enter Tryz.func131, Tryz.ntmps131
  go_wp2
  go_end0
  exact ⟨rfl, rfl⟩
set_option maxRecDepth 100000 in
set_option maxHeartbeats 400000 in
theorem next_done (w : World) (b h : Nat) (xs : List Nat) (at' f : Nat) (k bound : Int) (hf : f ≠ 0) (hr : Rd w b h xs at' f) :
    Calls Tryz.prog 93 #[.pointer (some ⟨b, 0, none⟩), .int .i64 k, .int .u64 bound] w fun e w' => e = .returned (.agg #[.int .u64 0, .slice none 0 0, .int .i64 0]) ∧ Below w.heap.size w w' := by
  obtain ⟨q0, q1, q2, qf⟩ := blk3 hr.blk
  have hb0 : ((f : Int) != 0) = true := by simp; omega
  have hlt := hr.lt
  clear hr
  go_enter Tryz.func93, Tryz.ntmps93
  go_wp2
  exact bodyPost_ret (v := .agg #[.int .u64 0, .slice none 0 0, .int .i64 0]) (by simp [results, Tryz.results93, go_sem]) rfl ⟨rfl, (Below.refl _ _).alloc (Nat.le_refl _) _⟩
set_option maxRecDepth 100000 in
set_option maxHeartbeats 1000000 in
theorem next_bad (w : World) (b h : Nat) (n a : Nat) (ha : a < n) (xs : List Nat) (k bound : Int) (it : It) (_hn : n ≤ 140737488355328) (hlt : b < w.heap.size)
    (HK : Hid (w.heap[b]? = some (.cells #[.slice (some ⟨h, 0, none⟩) n n, .int .i64 (a : Nat), .int .i64 0] 139 (0, 0)))) (HB : Hid (Bytes w (some ⟨h, 0, none⟩) xs)) (hfault : it.fault ≠ 0)
    (HF : Hid (∀ w', Bytes w' (some ⟨h, 0, none⟩) xs → Calls Tryz.prog 130 #[.slice (some ⟨h, a, none⟩) (n - a) (n - a), .int .i64 k, .int .u64 bound] w' fun e w'' => Found w' w'' (xs.drop a) it e)) :
    Calls Tryz.prog 93 #[.pointer (some ⟨b, 0, none⟩), .int .i64 k, .int .u64 bound] w fun e w' =>
      e = .returned (.agg #[.int .u64 0, .slice none 0 0, .int .i64 0]) ∧ w'.heap[b]? = some (.cells #[.slice (some ⟨h, 0, none⟩) n n, .int .i64 (a : Nat), .int .i64 (it.fault : Int)] 139 (0, 0)) ∧ But b w w' := by
  have i1 : (0 : Int) ≤ (a : Int) := by omega
  have i2 : (a : Int) ≤ (n : Int) := by omega
  have i3 : ¬ n = a := by omega
  have n0 : ¬ b = w.heap.size := by omega
  have n00 : ¬ w.heap.size = b := by omega
  have n1 : ¬ b = w.heap.size + 1 := by omega
  have n2 : ¬ w.heap.size + 1 = b := by omega
  obtain ⟨q0, q1, q2, qf⟩ := blk3 HK.out
  have hb0 : ((it.fault : Int) != 0) = true := by simp; omega
  go_enter Tryz.func93, Tryz.ntmps93
  go_wp2
  go_region_held3 (fun w' => w'.cell? ⟨b, 0, none⟩ = some (.slice (some ⟨h, 0, none⟩) n n) ∧ w'.cell? ⟨b, 1, none⟩ = some (.int .i64 (a : Nat))) (go_keep)
    (first | (go_at_call 130; refine (HF.out _ (by first | exact HB.out.below ((Below.refl _ _).alloc (Nat.le_refl _) _).drew | exact HB.out.below (((Below.refl _ _).alloc (Nat.le_refl _) _).alloc (by simp) _).drew)).mono ?_; rintro e w2 ⟨bp, bc, rfl, HBy0, hbc, hbc2, hbel2⟩; have HBy : Hid (Bytes w2 bp _) := HBy0; clear HBy0; have HQ : Hid (Below (w.heap.size + 1) (w.alloc _) w2) := (by first | exact Below.trans (((Below.refl _ _).drew)) (hbel2.mono (by simp <;> omega)) | exact Below.trans (((Below.refl _ _).alloc (by simp) _).drew) (hbel2.mono (by simp <;> omega))); have hs2 : w.heap.size < w2.heap.size := (by have := HQ.out.size; simp at this; omega); have hs3 : b < w2.heap.size := Nat.lt_trans hlt hs2; have HKb : Hid (w2.heap[b]? = _) := (HQ.out.block b (by omega)).trans ((Below.heap_alloc _ _ _ hlt).trans HK.out); have HKr : Hid (w2.heap[w.heap.size]? = _) := (HQ.out.block w.heap.size (by omega)).trans (heap_alloc_new _ _); obtain ⟨r0, r1, r2, rf⟩ := blk3 HKb.out; obtain ⟨s0, s1, s2, sf⟩ := blk3 HKr.out; obtain ⟨hc2, hf2⟩ := bcell hbel2))
  all_goals go_wp2_with fail
  · refine (fail_first _ b _ _ _ _ ((Below.heap_alloc _ _ _ hs3).trans HKb.out)).mono ?_
    rintro e w3 ⟨rfl, rfl⟩
    go_wp2
    have HW : But b w w2 := but_of (((Below.refl _ _).alloc (Nat.le_refl _) _).trans (HQ.out.mono (by omega))) b
    refine bodyPost_ret (v := .agg #[.int .u64 0, .slice none 0 0, .int .i64 0]) (by simp [results, Tryz.results93, go_sem, s0, s1, s2, hs2]) rfl ⟨rfl, ?_, ((HW.setCell (Or.inl rfl) _).set3 w.heap.size (Nat.le_refl _) _ _ _).alloc _⟩
    rw [Below.heap_alloc _ _ _ (by simp [World.setCell]; omega), set3_other _ n0, block_set HKb.out]
    rfl
  · refine (fail_first _ b _ _ _ _ (by rw [Below.heap_setCell _ _ _ _ n1, Below.heap_setCell _ _ _ _ n1, Below.heap_setCell _ _ _ _ n1]; exact HKb.out)).mono ?_
    rintro e w3 ⟨rfl, rfl⟩
    go_wp2
    have HW : But b w w2 := but_of (((Below.refl _ _).alloc (Nat.le_refl _) _).trans (HQ.out.mono (by omega))) b
    refine bodyPost_ret (v := .agg #[.int .u64 0, .slice none 0 0, .int .i64 0]) (by simp [results, Tryz.results93, go_sem, s0, s1, s2]) rfl ⟨rfl, ?_, ((HW.set3 (w.heap.size + 1) (by omega) _ _ _).setCell (Or.inl rfl) _).set3 w.heap.size (Nat.le_refl _) _ _ _⟩
    rw [set3_other _ n0, block_set ((set3_other _ n1 _ _ _).trans HKb.out)]
    rfl
set_option maxRecDepth 100000 in
set_option maxHeartbeats 1000000 in
theorem next_ok (w : World) (b h : Nat) (n a : Nat) (ha : a < n) (xs : List Nat) (k bound : Int) (it : It) (_hn : n ≤ 140737488355328) (hlt : b < w.heap.size)
    (HK : Hid (w.heap[b]? = some (.cells #[.slice (some ⟨h, 0, none⟩) n n, .int .i64 (a : Nat), .int .i64 0] 139 (0, 0)))) (HB : Hid (Bytes w (some ⟨h, 0, none⟩) xs)) (hfault : it.fault = 0) (hsize : a + it.size ≤ n)
    (HF : Hid (∀ w', Bytes w' (some ⟨h, 0, none⟩) xs → Calls Tryz.prog 130 #[.slice (some ⟨h, a, none⟩) (n - a) (n - a), .int .i64 k, .int .u64 bound] w' fun e w'' => Found w' w'' (xs.drop a) it e)) :
    Calls Tryz.prog 93 #[.pointer (some ⟨b, 0, none⟩), .int .i64 k, .int .u64 bound] w fun e w' =>
      ∃ bp bc, e = .returned (.agg #[.int .u64 (it.num : Int), .slice bp it.len bc, .int .i64 (it.size : Int)]) ∧ Bytes w' bp (((xs.drop a).drop it.off).take it.len) ∧ it.len ≤ bc ∧ bc ≤ 140737488355328 ∧
        w'.heap[b]? = some (.cells #[.slice (some ⟨h, 0, none⟩) n n, .int .i64 ((a + it.size : Nat) : Int), .int .i64 0] 139 (0, 0)) ∧ But b w w' := by
  have i1 : (0 : Int) ≤ (a : Int) := by omega
  have i2 : (a : Int) ≤ (n : Int) := by omega
  have i3 : ¬ n = a := by omega
  have n0 : ¬ b = w.heap.size := by omega
  have n00 : ¬ w.heap.size = b := by omega
  have n1 : ¬ b = w.heap.size + 1 := by omega
  have n2 : ¬ w.heap.size + 1 = b := by omega
  obtain ⟨q0, q1, q2, qf⟩ := blk3 HK.out
  have hb0 : ((it.fault : Int) != 0) = false := by simp [hfault]
  obtain ⟨num, ioff, ilen, isize, ifault⟩ := it
  simp only at *
  subst hfault
  go_enter Tryz.func93, Tryz.ntmps93
  go_wp2
  go_region_held3 (fun w' => w'.cell? ⟨b, 0, none⟩ = some (.slice (some ⟨h, 0, none⟩) n n) ∧ w'.cell? ⟨b, 1, none⟩ = some (.int .i64 (a : Nat))) (go_keep)
    (first | (go_at_call 130; refine (HF.out _ (by first | exact HB.out.below ((Below.refl _ _).alloc (Nat.le_refl _) _).drew | exact HB.out.below (((Below.refl _ _).alloc (Nat.le_refl _) _).alloc (by simp) _).drew)).mono ?_; rintro e w2 ⟨bp, bc, rfl, HBy0, hbc, hbc2, hbel2⟩; have HBy : Hid (Bytes w2 bp _) := HBy0; clear HBy0; have HQ : Hid (Below (w.heap.size + 1) (w.alloc _) w2) := (by first | exact Below.trans (((Below.refl _ _).drew)) (hbel2.mono (by simp <;> omega)) | exact Below.trans (((Below.refl _ _).alloc (by simp) _).drew) (hbel2.mono (by simp <;> omega))); have hs2 : w.heap.size < w2.heap.size := (by have := HQ.out.size; simp at this; omega); have hs3 : b < w2.heap.size := Nat.lt_trans hlt hs2; have HKb : Hid (w2.heap[b]? = _) := (HQ.out.block b (by omega)).trans ((Below.heap_alloc _ _ _ hlt).trans HK.out); have HKr : Hid (w2.heap[w.heap.size]? = _) := (HQ.out.block w.heap.size (by omega)).trans (heap_alloc_new _ _); obtain ⟨r0, r1, r2, rf⟩ := blk3 HKb.out; obtain ⟨s0, s1, s2, sf⟩ := blk3 HKr.out; obtain ⟨hc2, hf2⟩ := bcell hbel2))
  all_goals go_wp2
  all_goals go_region
  all_goals go_wp2
  · have HW : But b w w2 := but_of (((Below.refl _ _).alloc (Nat.le_refl _) _).trans (HQ.out.mono (by omega))) b
    refine bodyPost_ret (v := .agg #[.int .u64 (num : Int), .slice bp ilen bc, .int .i64 (isize : Int)]) (by simp [results, Tryz.results93, go_sem, s0, s1, s2, hs2]) rfl ⟨bp, bc, rfl, ?_, hbc, hbc2, ?_, (((HW.setCell (Or.inl rfl) _).set3 w.heap.size (Nat.le_refl _) _ _ _).alloc _).drew⟩
    · refine Bytes.below (Bytes.set3 (Bytes.kept HBy.out b (fun k hk _ => Below.heap_setCell _ _ _ _ hk) (by simp [World.setCell]) (fun _ _ _ => not_bytes' HKb.out)) ((Below.heap_setCell _ _ _ _ n00).trans HKr.out) _ _ _) ((Below.refl _ _).alloc (Nat.le_refl _) _).drew
    · rw [drew_block, Below.heap_alloc _ _ _ (by simp [World.setCell]; omega), set3_other _ n0, block_set HKb.out]
      simp
  · have HW : But b w w2 := but_of (((Below.refl _ _).alloc (Nat.le_refl _) _).trans (HQ.out.mono (by omega))) b
    have HL2 : Hid (w2.heap[w.heap.size + 1]? = some (.cells #[.int .u64 0, .slice none 0 0, .int .i64 0] 141 (0, 0))) := (hbel2.block (w.heap.size + 1) (by simp)).trans (heap_alloc_two w _ _)
    refine bodyPost_ret (v := .agg #[.int .u64 (num : Int), .slice bp ilen bc, .int .i64 (isize : Int)]) (by simp [results, Tryz.results93, go_sem, s0, s1, s2]) rfl ⟨bp, bc, rfl, ?_, hbc, hbc2, ?_, (((HW.set3 (w.heap.size + 1) (by omega) _ _ _).setCell (Or.inl rfl) _).set3 w.heap.size (Nat.le_refl _) _ _ _).drew⟩
    · refine Bytes.below (Bytes.set3 (Bytes.kept (HBy.out.set3 HL2.out _ _ _) b (fun k hk _ => Below.heap_setCell _ _ _ _ hk) (by simp [World.setCell]) (fun _ _ _ => not_bytes' ((set3_other _ n1 _ _ _).trans HKb.out))) ((Below.heap_setCell _ _ _ _ n00).trans ((set3_other _ (by omega) _ _ _).trans HKr.out)) _ _ _) (Below.refl _ _).drew
    · rw [drew_block, set3_other _ n0, block_set ((set3_other _ n1 _ _ _).trans HKb.out)]
      simp
end Go.Proofs.YtjcdnclfakmbpaaGreatDoor.C
namespace Go.Proofs.YtjcdnclfakmbpaaGreatDoor.C
open Go.RowKit
attribute [local go_sem ↓] Go.wp_at_zero Go.wp_at_succ
set_option maxRecDepth 100000 in
set_option maxHeartbeats 1000000 in
theorem next_bad_edge (w : World) (b h : Nat) (n : Nat) (xs : List Nat) (k bound : Int) (it : It) (_hn : n ≤ 140737488355328) (hlt : b < w.heap.size)
    (HK : Hid (w.heap[b]? = some (.cells #[.slice (some ⟨h, 0, none⟩) n n, .int .i64 (n : Nat), .int .i64 0] 139 (0, 0)))) (HB : Hid (Bytes w (some ⟨h, 0, none⟩) xs)) (hfault : it.fault ≠ 0)
    (HF : Hid (∀ w', Bytes w' (some ⟨h, 0, none⟩) xs → Calls Tryz.prog 130 #[.slice (some ⟨h, 0, none⟩) 0 0, .int .i64 k, .int .u64 bound] w' fun e w'' => Found w' w'' (xs.drop n) it e)) :
    Calls Tryz.prog 93 #[.pointer (some ⟨b, 0, none⟩), .int .i64 k, .int .u64 bound] w fun e w' =>
      e = .returned (.agg #[.int .u64 0, .slice none 0 0, .int .i64 0]) ∧ w'.heap[b]? = some (.cells #[.slice (some ⟨h, 0, none⟩) n n, .int .i64 (n : Nat), .int .i64 (it.fault : Int)] 139 (0, 0)) ∧ But b w w' := by
  have i1 : (0 : Int) ≤ (n : Int) := by omega
  have n0 : ¬ b = w.heap.size := by omega
  have n00 : ¬ w.heap.size = b := by omega
  have n1 : ¬ b = w.heap.size + 1 := by omega
  have n2 : ¬ w.heap.size + 1 = b := by omega
  obtain ⟨q0, q1, q2, qf⟩ := blk3 HK.out
  have hb0 : ((it.fault : Int) != 0) = true := by simp; omega
  go_enter Tryz.func93, Tryz.ntmps93
  go_wp2
  go_region_held3 (fun w' => w'.cell? ⟨b, 0, none⟩ = some (.slice (some ⟨h, 0, none⟩) n n) ∧ w'.cell? ⟨b, 1, none⟩ = some (.int .i64 (n : Nat))) (go_keep)
    (first | (go_at_call 130; refine (HF.out _ (by first | exact HB.out.below ((Below.refl _ _).alloc (Nat.le_refl _) _).drew | exact HB.out.below (((Below.refl _ _).alloc (Nat.le_refl _) _).alloc (by simp) _).drew)).mono ?_; rintro e w2 ⟨bp, bc, rfl, HBy0, hbc, hbc2, hbel2⟩; have HBy : Hid (Bytes w2 bp _) := HBy0; clear HBy0; have HQ : Hid (Below (w.heap.size + 1) (w.alloc _) w2) := (by first | exact Below.trans (((Below.refl _ _).drew)) (hbel2.mono (by simp <;> omega)) | exact Below.trans (((Below.refl _ _).alloc (by simp) _).drew) (hbel2.mono (by simp <;> omega))); have hs2 : w.heap.size < w2.heap.size := (by have := HQ.out.size; simp at this; omega); have hs3 : b < w2.heap.size := Nat.lt_trans hlt hs2; have HKb : Hid (w2.heap[b]? = _) := (HQ.out.block b (by omega)).trans ((Below.heap_alloc _ _ _ hlt).trans HK.out); have HKr : Hid (w2.heap[w.heap.size]? = _) := (HQ.out.block w.heap.size (by omega)).trans (heap_alloc_new _ _); obtain ⟨r0, r1, r2, rf⟩ := blk3 HKb.out; obtain ⟨s0, s1, s2, sf⟩ := blk3 HKr.out; obtain ⟨hc2, hf2⟩ := bcell hbel2))
  all_goals go_wp2_with fail
  · refine (fail_first _ b _ _ _ _ ((Below.heap_alloc _ _ _ hs3).trans HKb.out)).mono ?_
    rintro e w3 ⟨rfl, rfl⟩
    go_wp2
    have HW : But b w w2 := but_of (((Below.refl _ _).alloc (Nat.le_refl _) _).trans (HQ.out.mono (by omega))) b
    refine bodyPost_ret (v := .agg #[.int .u64 0, .slice none 0 0, .int .i64 0]) (by simp [results, Tryz.results93, go_sem, s0, s1, s2, hs2]) rfl ⟨rfl, ?_, ((HW.setCell (Or.inl rfl) _).set3 w.heap.size (Nat.le_refl _) _ _ _).alloc _⟩
    rw [Below.heap_alloc _ _ _ (by simp [World.setCell]; omega), set3_other _ n0, block_set HKb.out]
    rfl
  · refine (fail_first _ b _ _ _ _ (by rw [Below.heap_setCell _ _ _ _ n1, Below.heap_setCell _ _ _ _ n1, Below.heap_setCell _ _ _ _ n1]; exact HKb.out)).mono ?_
    rintro e w3 ⟨rfl, rfl⟩
    go_wp2
    have HW : But b w w2 := but_of (((Below.refl _ _).alloc (Nat.le_refl _) _).trans (HQ.out.mono (by omega))) b
    refine bodyPost_ret (v := .agg #[.int .u64 0, .slice none 0 0, .int .i64 0]) (by simp [results, Tryz.results93, go_sem, s0, s1, s2]) rfl ⟨rfl, ?_, ((HW.set3 (w.heap.size + 1) (by omega) _ _ _).setCell (Or.inl rfl) _).set3 w.heap.size (Nat.le_refl _) _ _ _⟩
    rw [set3_other _ n0, block_set ((set3_other _ n1 _ _ _).trans HKb.out)]
    rfl
set_option maxRecDepth 100000 in
set_option maxHeartbeats 1000000 in
theorem next_ok_edge (w : World) (b h : Nat) (n : Nat) (xs : List Nat) (k bound : Int) (it : It) (_hn : n ≤ 140737488355328) (hlt : b < w.heap.size)
    (HK : Hid (w.heap[b]? = some (.cells #[.slice (some ⟨h, 0, none⟩) n n, .int .i64 (n : Nat), .int .i64 0] 139 (0, 0)))) (HB : Hid (Bytes w (some ⟨h, 0, none⟩) xs)) (hfault : it.fault = 0) (hsize : n + it.size ≤ n)
    (HF : Hid (∀ w', Bytes w' (some ⟨h, 0, none⟩) xs → Calls Tryz.prog 130 #[.slice (some ⟨h, 0, none⟩) 0 0, .int .i64 k, .int .u64 bound] w' fun e w'' => Found w' w'' (xs.drop n) it e)) :
    Calls Tryz.prog 93 #[.pointer (some ⟨b, 0, none⟩), .int .i64 k, .int .u64 bound] w fun e w' =>
      ∃ bp bc, e = .returned (.agg #[.int .u64 (it.num : Int), .slice bp it.len bc, .int .i64 (it.size : Int)]) ∧ Bytes w' bp (((xs.drop n).drop it.off).take it.len) ∧ it.len ≤ bc ∧ bc ≤ 140737488355328 ∧
        w'.heap[b]? = some (.cells #[.slice (some ⟨h, 0, none⟩) n n, .int .i64 ((n + it.size : Nat) : Int), .int .i64 0] 139 (0, 0)) ∧ But b w w' := by
  have i1 : (0 : Int) ≤ (n : Int) := by omega
  have n0 : ¬ b = w.heap.size := by omega
  have n00 : ¬ w.heap.size = b := by omega
  have n1 : ¬ b = w.heap.size + 1 := by omega
  have n2 : ¬ w.heap.size + 1 = b := by omega
  obtain ⟨q0, q1, q2, qf⟩ := blk3 HK.out
  have hb0 : ((it.fault : Int) != 0) = false := by simp [hfault]
  obtain ⟨num, ioff, ilen, isize, ifault⟩ := it
  simp only at *
  subst hfault
  go_enter Tryz.func93, Tryz.ntmps93
  go_wp2
  go_region_held3 (fun w' => w'.cell? ⟨b, 0, none⟩ = some (.slice (some ⟨h, 0, none⟩) n n) ∧ w'.cell? ⟨b, 1, none⟩ = some (.int .i64 (n : Nat))) (go_keep)
    (first | (go_at_call 130; refine (HF.out _ (by first | exact HB.out.below ((Below.refl _ _).alloc (Nat.le_refl _) _).drew | exact HB.out.below (((Below.refl _ _).alloc (Nat.le_refl _) _).alloc (by simp) _).drew)).mono ?_; rintro e w2 ⟨bp, bc, rfl, HBy0, hbc, hbc2, hbel2⟩; have HBy : Hid (Bytes w2 bp _) := HBy0; clear HBy0; have HQ : Hid (Below (w.heap.size + 1) (w.alloc _) w2) := (by first | exact Below.trans (((Below.refl _ _).drew)) (hbel2.mono (by simp <;> omega)) | exact Below.trans (((Below.refl _ _).alloc (by simp) _).drew) (hbel2.mono (by simp <;> omega))); have hs2 : w.heap.size < w2.heap.size := (by have := HQ.out.size; simp at this; omega); have hs3 : b < w2.heap.size := Nat.lt_trans hlt hs2; have HKb : Hid (w2.heap[b]? = _) := (HQ.out.block b (by omega)).trans ((Below.heap_alloc _ _ _ hlt).trans HK.out); have HKr : Hid (w2.heap[w.heap.size]? = _) := (HQ.out.block w.heap.size (by omega)).trans (heap_alloc_new _ _); obtain ⟨r0, r1, r2, rf⟩ := blk3 HKb.out; obtain ⟨s0, s1, s2, sf⟩ := blk3 HKr.out; obtain ⟨hc2, hf2⟩ := bcell hbel2))
  all_goals go_wp2
  all_goals go_region
  all_goals go_wp2
  · have HW : But b w w2 := but_of (((Below.refl _ _).alloc (Nat.le_refl _) _).trans (HQ.out.mono (by omega))) b
    refine bodyPost_ret (v := .agg #[.int .u64 (num : Int), .slice bp ilen bc, .int .i64 (isize : Int)]) (by simp [results, Tryz.results93, go_sem, s0, s1, s2, hs2]) rfl ⟨bp, bc, rfl, ?_, hbc, hbc2, ?_, (((HW.setCell (Or.inl rfl) _).set3 w.heap.size (Nat.le_refl _) _ _ _).alloc _).drew⟩
    · refine Bytes.below (Bytes.set3 (Bytes.kept HBy.out b (fun k hk _ => Below.heap_setCell _ _ _ _ hk) (by simp [World.setCell]) (fun _ _ _ => not_bytes' HKb.out)) ((Below.heap_setCell _ _ _ _ n00).trans HKr.out) _ _ _) ((Below.refl _ _).alloc (Nat.le_refl _) _).drew
    · rw [drew_block, Below.heap_alloc _ _ _ (by simp [World.setCell]; omega), set3_other _ n0, block_set HKb.out]
      simp
  · have HW : But b w w2 := but_of (((Below.refl _ _).alloc (Nat.le_refl _) _).trans (HQ.out.mono (by omega))) b
    have HL2 : Hid (w2.heap[w.heap.size + 1]? = some (.cells #[.int .u64 0, .slice none 0 0, .int .i64 0] 141 (0, 0))) := (hbel2.block (w.heap.size + 1) (by simp)).trans (heap_alloc_two w _ _)
    refine bodyPost_ret (v := .agg #[.int .u64 (num : Int), .slice bp ilen bc, .int .i64 (isize : Int)]) (by simp [results, Tryz.results93, go_sem, s0, s1, s2]) rfl ⟨bp, bc, rfl, ?_, hbc, hbc2, ?_, (((HW.set3 (w.heap.size + 1) (by omega) _ _ _).setCell (Or.inl rfl) _).set3 w.heap.size (Nat.le_refl _) _ _ _).drew⟩
    · refine Bytes.below (Bytes.set3 (Bytes.kept (HBy.out.set3 HL2.out _ _ _) b (fun k hk _ => Below.heap_setCell _ _ _ _ hk) (by simp [World.setCell]) (fun _ _ _ => not_bytes' ((set3_other _ n1 _ _ _).trans HKb.out))) ((Below.heap_setCell _ _ _ _ n00).trans ((set3_other _ (by omega) _ _ _).trans HKr.out)) _ _ _) (Below.refl _ _).drew
    · rw [drew_block, set3_other _ n0, block_set ((set3_other _ n1 _ _ _).trans HKb.out)]
      simp
def Took (w w' : World) (b h : Nat) (xs : List Nat) (a : Nat) (x : It × Nat × Nat) (e : Ending) : Prop :=
  ∃ bp bc, e = .returned (.agg #[.int .u64 (x.1.num : Int), .slice bp x.1.len bc, .int .i64 (x.1.size : Int)]) ∧ Bytes w' bp (((xs.drop a).drop x.1.off).take x.1.len) ∧ x.1.len ≤ bc ∧ bc ≤ 140737488355328 ∧ Rd w' b h xs x.2.1 x.2.2 ∧ But b w w'
theorem next_any (w : World) (b h : Nat) (xs : List Nat) (a f : Nat) (k : Int) (bound : Nat) (hr : Rd w b h xs a f) (hm : bound < 18446744073709551616) :
    Calls Tryz.prog 93 #[.pointer (some ⟨b, 0, none⟩), .int .i64 k, .int .u64 bound] w fun e w' => Took w w' b h xs a (rNext k bound xs a f) e := by
  by_cases hf : f ≠ 0
  · refine (next_done w b h xs a f k bound hf hr).mono ?_
    rintro e w' ⟨rfl, hb⟩
    rw [rNext, if_pos hf]
    exact ⟨none, 0, rfl, by simpa [no] using bytes_none w' none, by simp [no], by omega, hr.below hb, but_of hb b⟩
  · obtain rfl : f = 0 := by omega
    have hfind : ∀ sp len cap, len ≤ cap → cap ≤ 140737488355328 → (xs.drop a).length = len → (∀ w', Bytes w' (some ⟨h, 0, none⟩) xs → Bytes w' sp (xs.drop a)) → (∀ w', Bytes w' (some ⟨h, 0, none⟩) xs → Calls Tryz.prog 130 #[.slice sp len cap, .int .i64 k, .int .u64 bound] w' fun e w'' => Found w' w'' (xs.drop a) (pFind k bound (xs.drop a)) e) :=
      fun sp len cap h1 h2 h3 h4 w' hw => find_any w' sp len cap bound k (xs.drop a) h3 (h4 w' hw) h1 h2 hm
    have hsz := pf_size k bound (xs.drop a)
    rw [List.length_drop] at hsz
    have hle := hr.le
    have hlen := hr.len
    have hblk := hr.blk
    by_cases he : a = xs.length
    · have hnil : xs.drop a = [] := by rw [he]; simp
      have HF := hfind (some ⟨h, 0, none⟩) 0 0 (by omega) (by omega) (by rw [hnil]; rfl) (fun w' _ => by rw [hnil]; exact bytes_none _ _)
      rw [he] at HF hblk
      by_cases hx : (pFind k bound (xs.drop a)).fault ≠ 0
      · rw [rNext, if_neg (by omega), if_pos hx]
        rw [he] at hx ⊢
        refine (next_bad_edge w b h xs.length xs k bound _ hlen hr.lt hblk hr.held hx HF).mono ?_
        rintro e w' ⟨rfl, hk, hb⟩
        exact ⟨none, 0, rfl, by simpa [no] using bytes_none w' none, by simp [no], by omega, hr.but hb (by simp) hk, hb⟩
      · rw [rNext, if_neg (by omega), if_neg hx]
        have hs := hsz (by omega)
        rw [he] at hx hs ⊢
        refine (next_ok_edge w b h xs.length xs k bound _ hlen hr.lt hblk hr.held (by omega) (by omega) HF).mono ?_
        rintro e w' ⟨bp, bc, rfl, hby, h1, h2, hk, hb⟩
        exact ⟨bp, bc, rfl, hby, h1, h2, hr.but hb (by simp only; omega) hk, hb⟩
    · have HF := hfind (some ⟨h, a, none⟩) (xs.length - a) (xs.length - a) (by omega) (by omega) (by simp) (fun w' hw => by have := hw.drop a; simpa using this)
      by_cases hx : (pFind k bound (xs.drop a)).fault ≠ 0
      · rw [rNext, if_neg (by omega), if_pos hx]
        refine (next_bad w b h xs.length a (by omega) xs k bound _ hlen hr.lt hblk hr.held hx HF).mono ?_
        rintro e w' ⟨rfl, hk, hb⟩
        exact ⟨none, 0, rfl, by simpa [no] using bytes_none w' none, by simp [no], by omega, hr.but hb hle hk, hb⟩
      · rw [rNext, if_neg (by omega), if_neg hx]
        have hs := hsz (by omega)
        refine (next_ok w b h xs.length a (by omega) xs k bound _ hlen hr.lt hblk hr.held (by omega) (by omega) HF).mono ?_
        rintro e w' ⟨bp, bc, rfl, hby, h1, h2, hk, hb⟩
        exact ⟨bp, bc, rfl, hby, h1, h2, hr.but hb (by simp only; omega) hk, hb⟩
end Go.Proofs.YtjcdnclfakmbpaaGreatDoor.C
