import Derived.Test.YtfjhbbekeibpkaaDoorCReader
namespace Go.Proofs.YtfjhbbekeibpkaaDoor.C
open Go.RowKit

attribute [local go_sem ↓] Go.wp_at_zero Go.wp_at_succ

set_option maxRecDepth 100000 in
set_option maxHeartbeats 1000000 in
theorem next_bad_edge (w : World) (b h : Nat) (n : Nat) (xs : List Nat) (k bound : Int) (it : It) (_hn : n ≤ 140737488355328) (hlt : b < w.heap.size)
    (HK : Hid (w.heap[b]? = some (.cells #[.slice (some ⟨h, 0, none⟩) n n, .int .i64 (n : Nat), .int .i64 0] 98 (0, 0)))) (HB : Hid (Bytes w (some ⟨h, 0, none⟩) xs)) (hfault : it.fault ≠ 0)
    (HF : Hid (∀ w', Bytes w' (some ⟨h, 0, none⟩) xs → Calls Tryd.prog 71 #[.slice (some ⟨h, 0, none⟩) 0 0, .int .i64 k, .int .u64 bound] w' fun e w'' => Found w' w'' (xs.drop n) it e)) :
    Calls Tryd.prog 66 #[.pointer (some ⟨b, 0, none⟩), .int .i64 k, .int .u64 bound] w fun e w' =>
      e = .returned (.agg #[.int .u64 0, .slice none 0 0, .int .i64 0]) ∧ w'.heap[b]? = some (.cells #[.slice (some ⟨h, 0, none⟩) n n, .int .i64 (n : Nat), .int .i64 (it.fault : Int)] 98 (0, 0)) ∧ But b w w' := by
  have i1 : (0 : Int) ≤ (n : Int) := by omega
  have n0 : ¬ b = w.heap.size := by omega
  have n00 : ¬ w.heap.size = b := by omega
  have n1 : ¬ b = w.heap.size + 1 := by omega
  have n2 : ¬ w.heap.size + 1 = b := by omega
  obtain ⟨q0, q1, q2, qf⟩ := blk3 HK.out
  have hb0 : ((it.fault : Int) != 0) = true := by simp; omega
  go_enter Tryd.func66, Tryd.ntmps66
  go_wp2
  go_region_held3 (fun w' => w'.cell? ⟨b, 0, none⟩ = some (.slice (some ⟨h, 0, none⟩) n n) ∧ w'.cell? ⟨b, 1, none⟩ = some (.int .i64 (n : Nat))) (go_keep)
    (first | (go_at_call 71; refine (HF.out _ (by first | exact HB.out.below ((Below.refl _ _).alloc (Nat.le_refl _) _).drew | exact HB.out.below (((Below.refl _ _).alloc (Nat.le_refl _) _).alloc (by simp) _).drew)).mono ?_; rintro e w2 ⟨bp, bc, rfl, HBy0, hbc, hbc2, hbel2⟩; have HBy : Hid (Bytes w2 bp _) := HBy0; clear HBy0; have HQ : Hid (Below (w.heap.size + 1) (w.alloc _) w2) := (by first | exact Below.trans (((Below.refl _ _).drew)) (hbel2.mono (by simp <;> omega)) | exact Below.trans (((Below.refl _ _).alloc (by simp) _).drew) (hbel2.mono (by simp <;> omega))); have hs2 : w.heap.size < w2.heap.size := (by have := HQ.out.size; simp at this; omega); have hs3 : b < w2.heap.size := Nat.lt_trans hlt hs2; have HKb : Hid (w2.heap[b]? = _) := (HQ.out.block b (by omega)).trans ((Below.heap_alloc _ _ _ hlt).trans HK.out); have HKr : Hid (w2.heap[w.heap.size]? = _) := (HQ.out.block w.heap.size (by omega)).trans (heap_alloc_new _ _); obtain ⟨r0, r1, r2, rf⟩ := blk3 HKb.out; obtain ⟨s0, s1, s2, sf⟩ := blk3 HKr.out; obtain ⟨hc2, hf2⟩ := bcell hbel2))
  all_goals go_wp2_with fail
  · refine (fail_first _ b _ _ _ _ ((Below.heap_alloc _ _ _ hs3).trans HKb.out)).mono ?_
    rintro e w3 ⟨rfl, rfl⟩
    go_wp2
    have HW : But b w w2 := but_of (((Below.refl _ _).alloc (Nat.le_refl _) _).trans (HQ.out.mono (by omega))) b
    refine bodyPost_ret (v := .agg #[.int .u64 0, .slice none 0 0, .int .i64 0]) (by simp [results, Tryd.results66, go_sem, s0, s1, s2, hs2]) rfl ⟨rfl, ?_, ((HW.setCell (Or.inl rfl) _).set3 w.heap.size (Nat.le_refl _) _ _ _).alloc _⟩
    rw [Below.heap_alloc _ _ _ (by simp [World.setCell]; omega), set3_other _ n0, block_set HKb.out]
    rfl
  · refine (fail_first _ b _ _ _ _ (by rw [Below.heap_setCell _ _ _ _ n1, Below.heap_setCell _ _ _ _ n1, Below.heap_setCell _ _ _ _ n1]; exact HKb.out)).mono ?_
    rintro e w3 ⟨rfl, rfl⟩
    go_wp2
    have HW : But b w w2 := but_of (((Below.refl _ _).alloc (Nat.le_refl _) _).trans (HQ.out.mono (by omega))) b
    refine bodyPost_ret (v := .agg #[.int .u64 0, .slice none 0 0, .int .i64 0]) (by simp [results, Tryd.results66, go_sem, s0, s1, s2]) rfl ⟨rfl, ?_, ((HW.set3 (w.heap.size + 1) (by omega) _ _ _).setCell (Or.inl rfl) _).set3 w.heap.size (Nat.le_refl _) _ _ _⟩
    rw [set3_other _ n0, block_set ((set3_other _ n1 _ _ _).trans HKb.out)]
    rfl

set_option maxRecDepth 100000 in
set_option maxHeartbeats 1000000 in
theorem next_ok_edge (w : World) (b h : Nat) (n : Nat) (xs : List Nat) (k bound : Int) (it : It) (_hn : n ≤ 140737488355328) (hlt : b < w.heap.size)
    (HK : Hid (w.heap[b]? = some (.cells #[.slice (some ⟨h, 0, none⟩) n n, .int .i64 (n : Nat), .int .i64 0] 98 (0, 0)))) (HB : Hid (Bytes w (some ⟨h, 0, none⟩) xs)) (hfault : it.fault = 0) (hsize : n + it.size ≤ n)
    (HF : Hid (∀ w', Bytes w' (some ⟨h, 0, none⟩) xs → Calls Tryd.prog 71 #[.slice (some ⟨h, 0, none⟩) 0 0, .int .i64 k, .int .u64 bound] w' fun e w'' => Found w' w'' (xs.drop n) it e)) :
    Calls Tryd.prog 66 #[.pointer (some ⟨b, 0, none⟩), .int .i64 k, .int .u64 bound] w fun e w' =>
      ∃ bp bc, e = .returned (.agg #[.int .u64 (it.num : Int), .slice bp it.len bc, .int .i64 (it.size : Int)]) ∧ Bytes w' bp (((xs.drop n).drop it.off).take it.len) ∧ it.len ≤ bc ∧ bc ≤ 140737488355328 ∧
        w'.heap[b]? = some (.cells #[.slice (some ⟨h, 0, none⟩) n n, .int .i64 ((n + it.size : Nat) : Int), .int .i64 0] 98 (0, 0)) ∧ But b w w' := by
  have i1 : (0 : Int) ≤ (n : Int) := by omega
  have n0 : ¬ b = w.heap.size := by omega
  have n00 : ¬ w.heap.size = b := by omega
  have n1 : ¬ b = w.heap.size + 1 := by omega
  have n2 : ¬ w.heap.size + 1 = b := by omega
  obtain ⟨q0, q1, q2, qf⟩ := blk3 HK.out
  have hb0 : ((it.fault : Int) != 0) = false := by simp [hfault]
  obtain ⟨num, ioff, ilen, isize, ifault⟩ := it
  simp only at *
  subst hfault
  go_enter Tryd.func66, Tryd.ntmps66
  go_wp2
  go_region_held3 (fun w' => w'.cell? ⟨b, 0, none⟩ = some (.slice (some ⟨h, 0, none⟩) n n) ∧ w'.cell? ⟨b, 1, none⟩ = some (.int .i64 (n : Nat))) (go_keep)
    (first | (go_at_call 71; refine (HF.out _ (by first | exact HB.out.below ((Below.refl _ _).alloc (Nat.le_refl _) _).drew | exact HB.out.below (((Below.refl _ _).alloc (Nat.le_refl _) _).alloc (by simp) _).drew)).mono ?_; rintro e w2 ⟨bp, bc, rfl, HBy0, hbc, hbc2, hbel2⟩; have HBy : Hid (Bytes w2 bp _) := HBy0; clear HBy0; have HQ : Hid (Below (w.heap.size + 1) (w.alloc _) w2) := (by first | exact Below.trans (((Below.refl _ _).drew)) (hbel2.mono (by simp <;> omega)) | exact Below.trans (((Below.refl _ _).alloc (by simp) _).drew) (hbel2.mono (by simp <;> omega))); have hs2 : w.heap.size < w2.heap.size := (by have := HQ.out.size; simp at this; omega); have hs3 : b < w2.heap.size := Nat.lt_trans hlt hs2; have HKb : Hid (w2.heap[b]? = _) := (HQ.out.block b (by omega)).trans ((Below.heap_alloc _ _ _ hlt).trans HK.out); have HKr : Hid (w2.heap[w.heap.size]? = _) := (HQ.out.block w.heap.size (by omega)).trans (heap_alloc_new _ _); obtain ⟨r0, r1, r2, rf⟩ := blk3 HKb.out; obtain ⟨s0, s1, s2, sf⟩ := blk3 HKr.out; obtain ⟨hc2, hf2⟩ := bcell hbel2))
  all_goals go_wp2
  all_goals go_region
  all_goals go_wp2
  · have HW : But b w w2 := but_of (((Below.refl _ _).alloc (Nat.le_refl _) _).trans (HQ.out.mono (by omega))) b
    refine bodyPost_ret (v := .agg #[.int .u64 (num : Int), .slice bp ilen bc, .int .i64 (isize : Int)]) (by simp [results, Tryd.results66, go_sem, s0, s1, s2, hs2]) rfl ⟨bp, bc, rfl, ?_, hbc, hbc2, ?_, (((HW.setCell (Or.inl rfl) _).set3 w.heap.size (Nat.le_refl _) _ _ _).alloc _).drew⟩
    · refine Bytes.below (Bytes.set3 (Bytes.kept HBy.out b (fun k hk _ => Below.heap_setCell _ _ _ _ hk) (by simp [World.setCell]) (fun _ _ _ => not_bytes' HKb.out)) ((Below.heap_setCell _ _ _ _ n00).trans HKr.out) _ _ _) ((Below.refl _ _).alloc (Nat.le_refl _) _).drew
    · rw [drew_block, Below.heap_alloc _ _ _ (by simp [World.setCell]; omega), set3_other _ n0, block_set HKb.out]
      simp
  · have HW : But b w w2 := but_of (((Below.refl _ _).alloc (Nat.le_refl _) _).trans (HQ.out.mono (by omega))) b
    have HL2 : Hid (w2.heap[w.heap.size + 1]? = some (.cells #[.int .u64 0, .slice none 0 0, .int .i64 0] 100 (0, 0))) := (hbel2.block (w.heap.size + 1) (by simp)).trans (heap_alloc_two w _ _)
    refine bodyPost_ret (v := .agg #[.int .u64 (num : Int), .slice bp ilen bc, .int .i64 (isize : Int)]) (by simp [results, Tryd.results66, go_sem, s0, s1, s2]) rfl ⟨bp, bc, rfl, ?_, hbc, hbc2, ?_, (((HW.set3 (w.heap.size + 1) (by omega) _ _ _).setCell (Or.inl rfl) _).set3 w.heap.size (Nat.le_refl _) _ _ _).drew⟩
    · refine Bytes.below (Bytes.set3 (Bytes.kept (HBy.out.set3 HL2.out _ _ _) b (fun k hk _ => Below.heap_setCell _ _ _ _ hk) (by simp [World.setCell]) (fun _ _ _ => not_bytes' ((set3_other _ n1 _ _ _).trans HKb.out))) ((Below.heap_setCell _ _ _ _ n00).trans ((set3_other _ (by omega) _ _ _).trans HKr.out)) _ _ _) (Below.refl _ _).drew
    · rw [drew_block, set3_other _ n0, block_set ((set3_other _ n1 _ _ _).trans HKb.out)]
      simp

/-- What a read leaves: the item, the Reader behind it, all else as it was. -/
def Took (w w' : World) (b h : Nat) (xs : List Nat) (a : Nat) (x : It × Nat × Nat) (e : Ending) : Prop :=
  ∃ bp bc, e = .returned (.agg #[.int .u64 (x.1.num : Int), .slice bp x.1.len bc, .int .i64 (x.1.size : Int)]) ∧ Bytes w' bp (((xs.drop a).drop x.1.off).take x.1.len) ∧ x.1.len ≤ bc ∧ bc ≤ 140737488355328 ∧ Rd w' b h xs x.2.1 x.2.2 ∧ But b w w'

theorem next_any (w : World) (b h : Nat) (xs : List Nat) (a f : Nat) (k : Int) (bound : Nat) (hr : Rd w b h xs a f) (hm : bound < 18446744073709551616) :
    Calls Tryd.prog 66 #[.pointer (some ⟨b, 0, none⟩), .int .i64 k, .int .u64 bound] w fun e w' => Took w w' b h xs a (rNext k bound xs a f) e := by
  by_cases hf : f ≠ 0
  · refine (next_done w b h xs a f k bound hf hr).mono ?_
    rintro e w' ⟨rfl, hb⟩
    rw [rNext, if_pos hf]
    exact ⟨none, 0, rfl, by simpa [no] using bytes_none w' none, by simp [no], by omega, hr.below hb, but_of hb b⟩
  · obtain rfl : f = 0 := by omega
    have hfind : ∀ sp len cap, len ≤ cap → cap ≤ 140737488355328 → (xs.drop a).length = len → (∀ w', Bytes w' (some ⟨h, 0, none⟩) xs → Bytes w' sp (xs.drop a)) → (∀ w', Bytes w' (some ⟨h, 0, none⟩) xs → Calls Tryd.prog 71 #[.slice sp len cap, .int .i64 k, .int .u64 bound] w' fun e w'' => Found w' w'' (xs.drop a) (pFind k bound (xs.drop a)) e) :=
      fun sp len cap h1 h2 h3 h4 w' hw => find_any w' sp len cap bound k (xs.drop a) h3 (h4 w' hw) h1 h2 hm
    have hsz := pf_size k bound (xs.drop a)
    rw [List.length_drop] at hsz
    have hle := hr.le
    have hlen := hr.len
    have hblk := hr.blk
    by_cases he : a = xs.length
    · have hnil : xs.drop a = [] := by rw [he]; simp
      have HF := hfind (some ⟨h, 0, none⟩) 0 0 (by omega) (by omega) (by rw [hnil]; rfl) (fun w' _ => by rw [hnil]; exact bytes_none _ _)
      rw [he] at HF hblk
      by_cases hx : (pFind k bound (xs.drop a)).fault ≠ 0
      · rw [rNext, if_neg (by omega), if_pos hx]
        rw [he] at hx ⊢
        refine (next_bad_edge w b h xs.length xs k bound _ hlen hr.lt hblk hr.held hx HF).mono ?_
        rintro e w' ⟨rfl, hk, hb⟩
        exact ⟨none, 0, rfl, by simpa [no] using bytes_none w' none, by simp [no], by omega, hr.but hb (by simp) hk, hb⟩
      · rw [rNext, if_neg (by omega), if_neg hx]
        have hs := hsz (by omega)
        rw [he] at hx hs ⊢
        refine (next_ok_edge w b h xs.length xs k bound _ hlen hr.lt hblk hr.held (by omega) (by omega) HF).mono ?_
        rintro e w' ⟨bp, bc, rfl, hby, h1, h2, hk, hb⟩
        exact ⟨bp, bc, rfl, hby, h1, h2, hr.but hb (by simp only; omega) hk, hb⟩
    · have HF := hfind (some ⟨h, a, none⟩) (xs.length - a) (xs.length - a) (by omega) (by omega) (by simp) (fun w' hw => by have := hw.drop a; simpa using this)
      by_cases hx : (pFind k bound (xs.drop a)).fault ≠ 0
      · rw [rNext, if_neg (by omega), if_pos hx]
        refine (next_bad w b h xs.length a (by omega) xs k bound _ hlen hr.lt hblk hr.held hx HF).mono ?_
        rintro e w' ⟨rfl, hk, hb⟩
        exact ⟨none, 0, rfl, by simpa [no] using bytes_none w' none, by simp [no], by omega, hr.but hb hle hk, hb⟩
      · rw [rNext, if_neg (by omega), if_neg hx]
        have hs := hsz (by omega)
        refine (next_ok w b h xs.length a (by omega) xs k bound _ hlen hr.lt hblk hr.held (by omega) (by omega) HF).mono ?_
        rintro e w' ⟨bp, bc, rfl, hby, h1, h2, hk, hb⟩
        exact ⟨bp, bc, rfl, hby, h1, h2, hr.but hb (by simp only; omega) hk, hb⟩

end Go.Proofs.YtfjhbbekeibpkaaDoor.C
