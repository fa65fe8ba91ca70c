import Derived.Test.YtfjhbbekeibpkaaDoorLkH
import Derived.Lib.ConvBytes
namespace Go.Proofs.YtfjhbbekeibpkaaDoor
open Go.RowKit

/-- The bytes of a string. -/
def nums (s : ByteArray) : List Nat := s.data.toList.map (·.toNat)
theorem nums_len (s : ByteArray) : (nums s).length = s.size := by simp [nums]
theorem nums_small (s : ByteArray) : ∀ x ∈ nums s, x < 256 := by
  intro x hx
  simp only [nums, List.mem_map] at hx
  obtain ⟨y, _, rfl⟩ := hx
  exact y.toNat_lt
/-- BYTES THAT WERE TOLD: new memory, marked behind its end. -/
structure Told (w : World) (g c : Nat) (s : ByteArray) : Prop where
  blk : ∃ xs : List Nat, w.heap[g]? = some (.cells (vals xs).toArray 5 (c, c + 1)) ∧ xs.length = c ∧ xs.take s.size = nums s ∧ ∀ x ∈ xs, x < 256
  le : s.size ≤ c
  max : s.size ≤ maxLen → c ≤ maxLen
theorem Told.bytes {w : World} {g c : Nat} {s : ByteArray} (h : Told w g c s) : Bytes w (some ⟨g, 0, none⟩) (nums s) := by
  obtain ⟨⟨xs, h1, h2, h3, _⟩, h4, _⟩ := h
  refine ⟨nums_small s, Or.inr ⟨g, 0, rfl, C.lt_of_block h1, fun j hj => ?_⟩⟩
  rw [nums_len] at hj
  have hx : xs[j]? = (nums s)[j]? := by rw [← h3, List.getElem?_take, if_pos hj]
  simp only [World.cell?, h1, Nat.zero_add, vals]
  simp only [List.getElem?_toArray, List.getElem?_map, hx, List.getD]
  rw [List.getElem?_eq_getElem (by rw [nums_len]; exact hj)]
  rfl
theorem Told.same {w w' : World} {g c : Nat} {s : ByteArray} (h : Told w g c s) (e : w'.heap[g]? = w.heap[g]?) : Told w' g c s := by
  obtain ⟨⟨xs, h1, r⟩, h4, h5⟩ := h
  exact ⟨⟨xs, e.trans h1, r⟩, h4, h5⟩
theorem Told.lt {w : World} {g c : Nat} {s : ByteArray} (h : Told w g c s) : g < w.heap.size := by
  obtain ⟨⟨xs, h1, r⟩, _⟩ := h
  exact C.lt_of_block h1
theorem told_new (w : World) (s : ByteArray) : Told (Lib.bytesWorld w 5 s) w.heap.size (grownCap w s.size 0 5) s := by
  have hge := grownCap_ge w s.size 0 5
  have hmx := grownCap_le_maxLen w s.size 0 5
  refine ⟨⟨nums s ++ List.replicate (grownCap w s.size 0 5 - s.size) 0, ?_, ?_, ?_, ?_⟩, hge, hmx⟩
  · rw [Lib.bytesWorld_at_new]
    have e : Lib.bytesCells w 5 s = (vals (nums s ++ List.replicate (grownCap w s.size 0 5 - s.size) 0)).toArray := by
      apply Array.ext'
      simp [Lib.bytesCells, vals, nums, Function.comp_def]
    rw [e]
    simp [vals, nums_len]
    omega
  · simp [nums_len]; omega
  · rw [List.take_append_of_le_length (by rw [nums_len]; omega), List.take_of_length_le (by rw [nums_len]; omega)]
  · intro x hx
    rcases List.mem_append.1 hx with h | h
    · exact nums_small s x h
    · rw [List.mem_replicate] at h; omega


/-- The frame of a message. -/
def lfr (L : Lk) (n : Nat) (s : ByteArray) : Fr := ⟨L.me, L.other, L.life, L.known, n, L.handed, nums s⟩
set_option maxRecDepth 100000 in
set_option maxHeartbeats 2000000 in
set_option linter.unusedSimpArgs false in
theorem frame_any (w : World) (b : Nat) (L : Lk) (rv : Value) (n : Nat) (s : ByteArray) (h : Lb w b L rv) (hT : C.Tab w) :
    Calls Tryd.prog 22 #[.pointer (some ⟨b, 0, none⟩), .agg #[.int .u64 (n : Int), .string s]] w fun e w' => ∃ sq m, m = (encB (lfr L n s)).length ∧ e = .returned (.slice sq m m) ∧ C.Mine w.heap.size w' sq (encB (lfr L n s)) ∧ Below w.heap.size w w' := by
  have hlt := C.lt_of_block h
  obtain ⟨w1, hw1⟩ : ∃ w1, w.alloc (.cells #[.int .u64 (n : Int), .string s] 61) = w1 := ⟨_, rfl⟩
  have hb1 : Below w.heap.size w w1 := by rw [← hw1]; exact (Below.refl _ _).alloc (Nat.le_refl _) _
  have hk1 : w1.heap[w.heap.size]? = some (.cells #[.int .u64 (n : Int), .string s] 61 (0, 0)) := by rw [← hw1]; exact heap_alloc_new _ _
  obtain ⟨c0, c1, c2, -, c4, -, -, -, c8, -⟩ := blk15 (h.below hb1)
  have d0 : w1.cell? ⟨w.heap.size, 0, none⟩ = some (.int .u64 (n : Int)) := by simp [World.cell?, hk1]
  have d1 : w1.cell? ⟨w.heap.size, 1, none⟩ = some (.string s) := by simp [World.cell?, hk1]
  have hcv := Lib.run_convert_string_bytes (P := Tryd.prog) w1.drew _ _ 5 s Tryd.underlying9 Tryd.underlying27 Tryd.underlying5
  have ht := told_new w1.drew s
  have hb3 : Below w.heap.size w (Lib.bytesWorld w1.drew 5 s) := by
    refine ⟨hb1.os, hb1.tape, hb1.output, ?_, fun j hj => ?_⟩
    · rw [Lib.bytesWorld_size]; have := hb1.size; simp; omega
    · rw [Lib.bytesWorld_at_old _ _ _ _ (by have := hb1.size; simp; omega)]; exact hb1.block j hj
  obtain ⟨cp, hcp⟩ : ∃ cp, grownCap w1.drew s.size 0 5 = cp := ⟨_, rfl⟩
  rw [hcp] at ht hcv
  have hk3 : (Lib.bytesWorld w1.drew 5 s).heap[w.heap.size]? = some (.cells #[.int .u64 (n : Int), .string s] 61 (0, 0)) := by
    rw [Lib.bytesWorld_at_old _ _ _ _ (by rw [← hw1]; simp)]; exact hk1
  generalize Lib.bytesWorld w1.drew 5 s = w3 at *
  obtain ⟨x0, x1, x2, -, x4, -, -, -, x8, -⟩ := blk15 (h.below hb3)
  have y0 : w3.cell? ⟨w.heap.size, 0, none⟩ = some (.int .u64 (n : Int)) := by simp [World.cell?, hk3]
  have y1 : w3.cell? ⟨w.heap.size, 1, none⟩ = some (.string s) := by simp [World.cell?, hk3]
  have HL3 := hide (h.below hb3)
  have HK3 := hide hk3
  have HE := hide (enc_any w3 (lfr L n s) _ cp ht.bytes (hT.below hb3 hT.pos))
  have hns : (lfr L n s).body.length = s.size := nums_len s
  unfold frV at HE
  rw [hns] at HE
  simp only [lfr] at HE
  have HW := hide hw1
  have HB3 := hide hb3
  obtain ⟨EB, hEB⟩ : ∃ EB, encB ⟨L.me, L.other, L.life, L.known, n, L.handed, nums s⟩ = EB := ⟨_, rfl⟩
  rw [hEB] at HE
  have hEB2 : encB (lfr L n s) = EB := hEB
  rw [hEB2]
  clear hEB hEB2
  clear hcp hns ht hb3 hw1 h hk1 hT hk3
  go_enter Tryd.func22, Tryd.ntmps22
  go_upto_region 1 with (fail)
  rw [HW.out]
  refine wp_region_held_drew (S := (fun w' => w'.cell? ⟨b, 0, none⟩ = some (.int .i64 L.me) ∧ w'.cell? ⟨b, 1, none⟩ = some (.int .i64 L.other) ∧ w'.cell? ⟨b, 2, none⟩ = some (.int .u64 (L.life : Int)) ∧ w'.cell? ⟨b, 4, none⟩ = some (.int .u64 (L.known : Int)) ∧ w'.cell? ⟨b, 8, none⟩ = some (.int .u64 (L.handed : Int)) ∧ w'.cell? ⟨w.heap.size, 0, none⟩ = some (.int .u64 (n : Int)) ∧ w'.cell? ⟨w.heap.size, 1, none⟩ = some (.string s))) (by kernel_rfl) (by go_keep) (fun hHeld => ?_)
  refine wpAnyH_take (i := 0) (oi := _) (v := ?vd0) rfl (by kernel_rfl) (by kernel_rfl) (by kernel_rfl) (fun _ _ _ h => h) (Or.inl ⟨by rfl, ?yd0⟩) (by assumption) ?rd0
  case yd0 => (intro w hSw; (try dsimp only at hSw); go_simp; try with_reducible rfl)
  try simp only [Act.put, List.setIfInBounds_toArray, List.set_cons_zero, List.set_cons_succ]
  refine wpAnyH_take (i := 1) (oi := _) (v := ?vd1) rfl (by kernel_rfl) (by kernel_rfl) (by kernel_rfl) (fun _ _ _ h => h) (Or.inl ⟨by rfl, ?yd1⟩) (by assumption) ?rd1
  case yd1 => (intro w hSw; (try dsimp only at hSw); go_simp; try with_reducible rfl)
  try simp only [Act.put, List.setIfInBounds_toArray, List.set_cons_zero, List.set_cons_succ]
  refine wpAnyH_take (i := 2) (oi := _) (v := ?vd2) rfl (by kernel_rfl) (by kernel_rfl) (by kernel_rfl) (fun _ _ _ h => h) (Or.inl ⟨by rfl, ?yd2⟩) (by assumption) ?rd2
  case yd2 => (intro w hSw; (try dsimp only at hSw); go_simp; try with_reducible rfl)
  try simp only [Act.put, List.setIfInBounds_toArray, List.set_cons_zero, List.set_cons_succ]
  refine wpAnyH_take (i := 3) (oi := _) (v := ?vd3) rfl (by kernel_rfl) (by kernel_rfl) (by kernel_rfl) (fun _ _ _ h => h) (Or.inl ⟨by rfl, ?yd3⟩) (by assumption) ?rd3
  case yd3 => (intro w hSw; (try dsimp only at hSw); go_simp; try with_reducible rfl)
  try simp only [Act.put, List.setIfInBounds_toArray, List.set_cons_zero, List.set_cons_succ]
  refine wpAnyH_take (i := 4) (oi := _) (v := ?vd4) rfl (by kernel_rfl) (by kernel_rfl) (by kernel_rfl) (fun _ _ _ h => h) (Or.inl ⟨by rfl, ?yd4⟩) (by assumption) ?rd4
  case yd4 => (intro w hSw; (try dsimp only at hSw); go_simp; try with_reducible rfl)
  try simp only [Act.put, List.setIfInBounds_toArray, List.set_cons_zero, List.set_cons_succ]
  refine wpAnyH_take (i := 5) (oi := _) (v := ?vd5) rfl (by kernel_rfl) (by kernel_rfl) (by kernel_rfl) (fun _ _ _ h => h) (Or.inl ⟨by rfl, ?yd5⟩) (by assumption) ?rd5
  case yd5 => (intro w hSw; (try dsimp only at hSw); go_simp; try with_reducible rfl)
  try simp only [Act.put, List.setIfInBounds_toArray, List.set_cons_zero, List.set_cons_succ]
  refine wpAnyH_take (i := 6) (oi := _) (v := ?vd6) rfl (by kernel_rfl) (by kernel_rfl) (by kernel_rfl) (fun _ _ _ h => h) (Or.inl ⟨by rfl, ?yd6⟩) (by assumption) ?rd6
  case yd6 => (intro w hSw; (try dsimp only at hSw); go_simp; try with_reducible rfl)
  try simp only [Act.put, List.setIfInBounds_toArray, List.set_cons_zero, List.set_cons_succ]
  refine wpAnyH_take (i := 7) (oi := _) (v := ?vd7) rfl (by kernel_rfl) (by kernel_rfl) (by kernel_rfl) (fun _ _ _ h => h) (Or.inl ⟨by rfl, ?yd7⟩) (by assumption) ?rd7
  case yd7 => (intro w hSw; (try dsimp only at hSw); go_simp; try with_reducible rfl)
  try simp only [Act.put, List.setIfInBounds_toArray, List.set_cons_zero, List.set_cons_succ]
  refine wpAnyH_take (i := 8) (oi := _) (v := ?vd8) rfl (by kernel_rfl) (by kernel_rfl) (by kernel_rfl) (fun _ _ _ h => h) (Or.inl ⟨by rfl, ?yd8⟩) (by assumption) ?rd8
  case yd8 => (intro w hSw; (try dsimp only at hSw); go_simp; try with_reducible rfl)
  try simp only [Act.put, List.setIfInBounds_toArray, List.set_cons_zero, List.set_cons_succ]
  refine wpAnyH_take (i := 9) (oi := _) (v := ?vd9) rfl (by kernel_rfl) (by kernel_rfl) (by kernel_rfl) (fun _ _ _ h => h) (Or.inl ⟨by rfl, ?yd9⟩) (by assumption) ?rd9
  case yd9 => (intro w hSw; (try dsimp only at hSw); go_simp; try with_reducible rfl)
  try simp only [Act.put, List.setIfInBounds_toArray, List.set_cons_zero, List.set_cons_succ]
  refine wpAnyH_take (i := 10) (oi := _) (v := ?vd10) rfl (by kernel_rfl) (by kernel_rfl) (by kernel_rfl) (fun _ _ _ h => h) (Or.inl ⟨by rfl, ?yd10⟩) (by assumption) ?rd10
  case yd10 => (intro w hSw; (try dsimp only at hSw); go_simp; try with_reducible rfl)
  try simp only [Act.put, List.setIfInBounds_toArray, List.set_cons_zero, List.set_cons_succ]
  refine wpAnyH_take (i := 11) (oi := _) (v := ?vd11) rfl (by kernel_rfl) (by kernel_rfl) (by kernel_rfl) (fun _ _ _ h => h) (Or.inl ⟨by rfl, ?yd11⟩) (by assumption) ?rd11
  case yd11 => (intro w hSw; (try dsimp only at hSw); go_simp; try with_reducible rfl)
  try simp only [Act.put, List.setIfInBounds_toArray, List.set_cons_zero, List.set_cons_succ]
  refine wpAnyH_take (i := 12) (oi := _) (v := ?vd12) rfl (by kernel_rfl) (by kernel_rfl) (by kernel_rfl) (fun _ _ _ h => h) (Or.inl ⟨by rfl, ?yd12⟩) (by assumption) ?rd12
  case yd12 => (intro w hSw; (try dsimp only at hSw); go_simp; try with_reducible rfl)
  try simp only [Act.put, List.setIfInBounds_toArray, List.set_cons_zero, List.set_cons_succ]
  refine wpAnyH_take (i := 13) (oi := _) (v := ?vd13) rfl (by kernel_rfl) (by kernel_rfl) (by kernel_rfl) (fun _ _ _ h => h) (Or.inl ⟨by rfl, ?yd13⟩) (by assumption) ?rd13
  case yd13 => (intro w hSw; (try dsimp only at hSw); go_simp; try with_reducible rfl)
  try simp only [Act.put, List.setIfInBounds_toArray, List.set_cons_zero, List.set_cons_succ]
  refine wpAnyH_take (i := 14) (oi := _) (v := ?vd14) rfl (by kernel_rfl) (by kernel_rfl) (by kernel_rfl) (fun _ _ _ h => h) (Or.inl ⟨by rfl, ?yd14⟩) (by assumption) ?rd14
  case yd14 => (intro w hSw; (try dsimp only at hSw); go_simp; try with_reducible rfl)
  try simp only [Act.put, List.setIfInBounds_toArray, List.set_cons_zero, List.set_cons_succ]
  refine wpAnyH_take (i := 15) (oi := _) (v := ?vd15) rfl (by kernel_rfl) (by kernel_rfl) (by kernel_rfl) (fun _ _ _ h => h) (Or.inl ⟨by rfl, ?yd15⟩) (by assumption) ?rd15
  case yd15 => (intro w hSw; (try dsimp only at hSw); go_simp; try with_reducible rfl)
  try simp only [Act.put, List.setIfInBounds_toArray, List.set_cons_zero, List.set_cons_succ]
  refine wpAnyH_take (i := 16) (oi := _) (v := ?vd16) rfl (by kernel_rfl) (by kernel_rfl) (by kernel_rfl) (fun _ _ _ h => h) (Or.inl ⟨by rfl, ?yd16⟩) (by assumption) ?rd16
  case yd16 => (intro w hSw; (try dsimp only at hSw); go_simp; try with_reducible rfl)
  try simp only [Act.put, List.setIfInBounds_toArray, List.set_cons_zero, List.set_cons_succ]
  refine wpAnyH_take (i := 17) (oi := _) (v := ?vd17) rfl (by kernel_rfl) (by kernel_rfl) (by kernel_rfl) (fun _ _ _ h => h) (Or.inl ⟨by rfl, ?yd17⟩) (by assumption) ?rd17
  case yd17 => (intro w hSw; (try dsimp only at hSw); go_simp; try with_reducible rfl)
  try simp only [Act.put, List.setIfInBounds_toArray, List.set_cons_zero, List.set_cons_succ]
  refine wpAnyH_take (i := 18) (oi := _) (v := ?vd18) rfl (by kernel_rfl) (by kernel_rfl) (by kernel_rfl) (fun _ _ _ h => h) (Or.inl ⟨by rfl, ?yd18⟩) (by assumption) ?rd18
  case yd18 => (intro w hSw; (try dsimp only at hSw); go_simp; try with_reducible rfl)
  try simp only [Act.put, List.setIfInBounds_toArray, List.set_cons_zero, List.set_cons_succ]
  refine wpAnyH_take (i := 19) (oi := _) (v := ?vd19) rfl (by kernel_rfl) (by kernel_rfl) (by kernel_rfl) (fun _ _ _ h => h) (Or.inl ⟨by rfl, ?yd19⟩) (by assumption) ?rd19
  case yd19 => (intro w hSw; (try dsimp only at hSw); go_simp; try with_reducible rfl)
  try simp only [Act.put, List.setIfInBounds_toArray, List.set_cons_zero, List.set_cons_succ]
  refine wpAnyH_take (i := 20) (oi := _) (v := ?vd20) rfl (by kernel_rfl) (by kernel_rfl) (by kernel_rfl) (fun _ _ _ h => h) (Or.inl ⟨by rfl, ?yd20⟩) (by assumption) ?rd20
  case yd20 => (intro w hSw; (try dsimp only at hSw); go_simp; try with_reducible rfl)
  try simp only [Act.put, List.setIfInBounds_toArray, List.set_cons_zero, List.set_cons_succ]
  refine wpAnyH_take (i := 21) (oi := _) (v := ?vd21) rfl (by kernel_rfl) (by kernel_rfl) (by kernel_rfl) (fun _ _ _ h => h) (Or.inl ⟨by rfl, ?yd21⟩) (by assumption) ?rd21
  case yd21 => (intro w hSw; (try dsimp only at hSw); go_simp; try with_reducible rfl)
  try simp only [Act.put, List.setIfInBounds_toArray, List.set_cons_zero, List.set_cons_succ]
  refine wpAnyH_take (i := 22) (oi := _) (v := ?vd22) rfl (by kernel_rfl) (by kernel_rfl) (by kernel_rfl) (fun _ _ _ h => h) (Or.inl ⟨by rfl, ?yd22⟩) (by assumption) ?rd22
  case yd22 => (intro w hSw; (try dsimp only at hSw); go_simp; try with_reducible rfl)
  try simp only [Act.put, List.setIfInBounds_toArray, List.set_cons_zero, List.set_cons_succ]
  refine wpAnyH_take (i := 23) (oi := _) (v := ?vd23) rfl (by kernel_rfl) (by kernel_rfl) (by kernel_rfl) (fun _ _ _ h => h) (Or.inl ⟨by rfl, ?yd23⟩) (by assumption) ?rd23
  case yd23 => (intro w hSw; (try dsimp only at hSw); go_simp; try with_reducible rfl)
  try simp only [Act.put, List.setIfInBounds_toArray, List.set_cons_zero, List.set_cons_succ]
  refine wpAnyH_take (i := 24) (oi := _) (v := ?vd24) rfl (by kernel_rfl) (by kernel_rfl) (by kernel_rfl) (fun _ _ _ h => h) (Or.inl ⟨by rfl, ?yd24⟩) (by assumption) ?rd24
  case yd24 => (intro w hSw; (try dsimp only at hSw); go_simp; try with_reducible rfl)
  try simp only [Act.put, List.setIfInBounds_toArray, List.set_cons_zero, List.set_cons_succ]
  refine wpAnyH_take (i := 25) (oi := _) (v := ?vd25) rfl (by kernel_rfl) (by kernel_rfl) (by kernel_rfl) (fun _ _ _ h => h) (Or.inl ⟨by rfl, ?yd25⟩) (by assumption) ?rd25
  case yd25 => (intro w hSw; (try dsimp only at hSw); go_simp; try with_reducible rfl)
  try simp only [Act.put, List.setIfInBounds_toArray, List.set_cons_zero, List.set_cons_succ]
  refine wpAnyH_ready (rs := [26]) (by kernel_rfl) (by simp) ?_
  refine AllReadyH.cons (o := _) rfl (fun KK hKK => ?_) AllReadyH.nil
  go_simp
  try go_wp2_with fail
  refine hKK.out _ _ (by (try dsimp only); go_keep) (fun hHeld => ?_)
  clear hKK KK
  try simp only [Act.put, List.setIfInBounds_toArray, List.set_cons_zero, List.set_cons_succ]
  refine wpAnyH_take (i := 27) (oi := _) (v := ?vd27) rfl (by kernel_rfl) (by kernel_rfl) (by kernel_rfl) (fun _ _ _ h => h) (Or.inl ⟨by rfl, ?yd27⟩) (by assumption) ?rd27
  case yd27 => (intro w hSw; (try dsimp only at hSw); go_simp; try with_reducible rfl)
  try simp only [Act.put, List.setIfInBounds_toArray, List.set_cons_zero, List.set_cons_succ]
  refine wpAnyH_ready (rs := [28]) (by kernel_rfl) (by simp) ?_
  refine AllReadyH.cons (o := _) rfl (fun KK hKK => ?_) AllReadyH.nil
  go_simp
  (go_at_call 38; refine HE.out.mono ?_; rintro e w4 ⟨sq, rfl, hm, hb⟩; have HM := hide hm; have HB := hide hb; obtain ⟨z0, z1, z2, -, z4, -, -, -, z8, -⟩ := blk15 (HL3.out.below hb); have hk4 := (hb.block _ (C.lt_of_block HK3.out)).trans HK3.out; have u0 : w4.cell? ⟨w.heap.size, 0, none⟩ = some (.int .u64 (n : Int)) := (by simp [World.cell?, hk4]); have u1 : w4.cell? ⟨w.heap.size, 1, none⟩ = some (.string s) := (by simp [World.cell?, hk4]); clear hm hb hk4)
  try go_wp2_with fail
  refine hKK.out _ _ (by (try dsimp only); go_keep) (fun hHeld => ?_)
  clear hKK KK
  try simp only [Act.put, List.setIfInBounds_toArray, List.set_cons_zero, List.set_cons_succ]
  refine wpAnyH_take (i := 29) (oi := { dst := some 4, op := Op.assign (Operand.tmp 33), type := 27, pos := _, after := _, guard := none }) (v := ?vd29) rfl (by kernel_rfl) (by kernel_rfl) (by kernel_rfl) (fun _ _ _ h => h) (Or.inl ⟨by rfl, ?yd29⟩) (by assumption) ?rd29
  case yd29 => (intro w hSw; (try dsimp only at hSw); go_simp; try with_reducible rfl)
  try simp only [Act.put, List.setIfInBounds_toArray, List.set_cons_zero, List.set_cons_succ]
  refine wpAnyH_done (by kernel_rfl) ?_ _
  go_wp2
  go_ret
  refine ⟨sq, EB.length, rfl, rfl, ?_, HB3.out.trans (HB.out.mono HB3.out.size)⟩
  rcases HM.out with h | ⟨g, e1, e2, e3⟩
  · exact Or.inl h
  · exact Or.inr ⟨g, e1, Nat.le_trans HB3.out.size e2, e3⟩
end Go.Proofs.YtfjhbbekeibpkaaDoor
namespace Go.Proofs.YtfjhbbekeibpkaaDoor
open Go.RowKit

theorem Tryd.infoSl : (Tryd.prog.info? 27).map (fun i => (i.zero, i.size, i.bytes)) = some (some (.slice none 0 0), 1, 24) := by kernel_rfl
theorem own_cell0 {w : World} {B : Nat} {e : TypeId} {a : Option Addr} {cap : Nat} {x : Value} (h : w.ownsRow B e 1 (.slice a 1 cap) 1 [x]) : ∃ g, a = some ⟨g, 0, none⟩ ∧ w.cell? ⟨g, 0, none⟩ = some x ∧ B ≤ g ∧ g < w.heap.size := by
  rcases h.2 with ⟨h1, _⟩ | ⟨g, c, cur, h1, h2, h3, h4, h5, h6, h7⟩
  · cases h1
  · cases h1
    refine ⟨g, rfl, ?_, h2, C.lt_of_block h3⟩
    simp only [World.cell?, h3]
    have : cur.toList[0]? = some x := by
      have := congrArg (fun l : List Value => l[0]?) h7
      simpa [List.getElem?_take] using this
    simpa using this
theorem Mine.c_bytes {B : Nat} {w w' : World} {sq : Option Addr} {xs : List Nat} (h : C.Mine B w sq xs) (hs : ∀ x ∈ xs, x < 256) (hk : ∀ g, B ≤ g → g < w.heap.size → w'.heap[g]? = w.heap[g]?) : C.Bytes w' sq xs := by
  refine C.Mine.bytes (B := B) ?_ hs
  rcases h with h | ⟨g, e, h1, h2⟩
  · exact Or.inl h
  · exact Or.inr ⟨g, e, h1, (hk g h1 (C.lt_of_block h2)).trans h2⟩
set_option maxRecDepth 100000 in
theorem bodies_none (w : World) (b : Nat) (L : Lk) (rv : Value) (h : Lb w b L rv) (hk : L.known = 0) (fv : Value) :
    Calls Tryd.prog 20 #[.pointer (some ⟨b, 0, none⟩), fv] w fun e w' => e = .returned (.slice none 0 0) ∧ w' = w := by
  have HK := hide (known_any w b L rv h)
  rw [hk] at HK
  clear h
  go_enter Tryd.func20, Tryd.ntmps20
  go_wp2_with fail
  refine HK.out.mono ?_
  rintro e w1 ⟨rfl, rfl⟩
  go_wp2
  go_ret
  exact ⟨rfl, rfl⟩
set_option maxRecDepth 100000 in
set_option maxHeartbeats 2000000 in
theorem tick_word (w : World) (b : Nat) (L : Lk) (c : Nat) (h : Lb w b L (.slice none 0 c)) (hk : L.known = 0) (hp : L.paced = true) (hl : L.left ≤ 1) (ho : L.Pok) (ha : L.ack = false) (hs : L.asked = false) (hT : C.Tab w) (hb0 : 0 < b) :
    Calls Tryd.prog 8 #[.pointer (some ⟨b, 0, none⟩)] w fun e w' => ∃ g cp sq m, e = .returned (.slice (some ⟨g, 0, none⟩) 1 cp) ∧ w'.cell? ⟨g, 0, none⟩ = some (.slice sq m m) ∧ m = (encB (lfr L 0 ⟨#[]⟩)).length ∧ C.Bytes w' sq (encB (lfr L 0 ⟨#[]⟩)) ∧ C.But b w w' := by
  have HR := hide (rlen_any w b L none 0 c h)
  have HP := hide (ptick_any w b L _ h ho)
  have hn : lnow L = true := by unfold lnow; exact decide_eq_true hl
  rw [hn] at HP
  obtain ⟨-, -, -, -, -, -, -, -, -, -, -, -, -, -, c14, -⟩ := blk15 h
  rw [hp] at c14
  have HL := hide h
  have HT := hide hT
  have hlt := C.lt_of_block h
  have HK : Hid ((ltick L).known = 0 ∧ (ltick L).ack = false ∧ (ltick L).asked = false ∧ (ltick L).paced = true ∧ lfr (ltick L) 0 ⟨#[]⟩ = lfr L 0 ⟨#[]⟩) := by
    show _ ∧ _
    unfold ltick
    split <;> exact ⟨hk, ha, hs, hp, rfl⟩
  clear h hT hn
  go_enter Tryd.func8, Tryd.ntmps8
  go_wp2_with fail
  refine HR.out.mono ?_
  rintro e w1 ⟨rfl, rfl⟩
  go_wp2_with fail
  refine HP.out.mono ?_
  rintro e w2 ⟨rfl, hl2, ho2⟩
  obtain ⟨-, -, -, -, -, -, -, c7, -, -, -, -, -, -, -, -⟩ := blk15 hl2
  have hs2 := ho2.size
  have hlt2 : b < w2.heap.size := by omega
  have HL2 := hide hl2
  have HO2 := hide ho2
  clear hl2 ho2
  go_wp2_with fail
  obtain ⟨w3, hw3⟩ : ∃ w3, (w2.alloc (.cells #[.bool true] 4)).alloc (.cells #[.int .u64 ((ltick L).gone : Int)] 26) = w3 := ⟨_, rfl⟩
  rw [hw3]
  have hb3 : Below w2.heap.size w2 w3 := by rw [← hw3]; exact ((Below.refl _ _).alloc (Nat.le_refl _) _).alloc (by simp) _
  have ht3 : w3.heap[w1.heap.size]? = some (.cells #[.bool true] 4 (0, 0)) := by
    rw [← hw3, Below.heap_alloc _ _ _ (by simp; omega), ← hs2]; exact heap_alloc_new _ _
  have HL3 := hide (HL2.out.below hb3)
  have HB3 := hide hb3
  have HT3 := hide ht3
  clear hw3 hb3 ht3
  refine (bodies_none w3 b (ltick L) _ HL3.out HK.out.1 _).mono ?_
  rintro e w4 ⟨rfl, rfl⟩
  obtain ⟨-, -, -, -, -, -, -, -, -, c9, -, -, -, c13, c14', -⟩ := blk15 HL3.out
  rw [HK.out.2.1] at c9
  rw [HK.out.2.2.1] at c13
  rw [HK.out.2.2.2.1] at c14'
  have t0 : w4.cell? ⟨w1.heap.size, 0, none⟩ = some (.bool true) := by have := HT3.out; simp [World.cell?, this]
  have HB4 : Hid (C.But b w1 w4) := by
    refine ⟨HB3.out.os.trans HO2.out.os, HB3.out.tape.trans HO2.out.tape, HB3.out.output.trans HO2.out.output, by have := HB3.out.size; omega, fun k hk hkb => (HB3.out.block k (by omega)).trans (HO2.out.block k hkb)⟩
  have HTb : Hid (C.Tab w4) := fun j hj => by
    have hpos := HT.out.pos
    rw [World.cell?_of_block (w := w1) (a := ⟨0, j, none⟩) (HB4.out.block 0 hpos (by omega))]; exact HT.out j hj
  have HF := hide (frame_any w4 b (ltick L) _ 0 ⟨#[]⟩ HL3.out HTb.out)
  rw [HK.out.2.2.2.2] at HF
  clear c7 HR HP
  go_wp2_with fail
  refine HF.out.mono ?_
  rintro e w5 ⟨sq, m, hm, rfl, hmi, hb5⟩
  obtain ⟨i0, hi, hz0, hz1, hz2⟩ := info_parts Tryd.infoSl
  have HM := hide hm
  have HMi := hide hmi
  have HB5 := hide hb5
  have HL5 := hide (HL3.out.below hb5)
  have HBt5 : Hid (C.But b w1 w5) := HB4.out.trans (C.but_of hb5 b)
  have hs5 : w1.heap.size ≤ w5.heap.size := HBt5.out.size
  have hsm : Hid (∀ x ∈ encB (lfr L 0 ⟨#[]⟩), x < 256) := encB_small (by intro x hx; simp [lfr, nums] at hx)
  clear hm hmi hb5 c9 c13 c14' t0 HF
  go_wp2_with (at_builtin; refine wpList_append_lies _ rfl (.tmp 57) (.tmp 61) 35 rfl w5.heap.size 27 i0 (.slice none 0 0) 1 24 Tryd.underlying35 hi hz0 hz1 hz2 rfl (by omega) (.slice none 0 0) 0 [] rfl ⟨rfl, Or.inl ⟨rfl, rfl⟩⟩ ⟨w5.heap.size, 0, none⟩ 1 1 [.slice sq m m] rfl rfl (World.news_of_block (heap_alloc_new w5 (.cells #[.slice sq m m] 27))) (by simp [Value.oneCell']) (by omega) (by unfold maxLen; omega) (by omega) (by simp) _ rfl ?_; intro g' cap' w6 hown hgrow hat hltg; have hb6 : Below w5.heap.size w5 w6 := ((Below.refl _ _).alloc (Nat.le_refl _) _).grown hgrow (by simp) (fun k e => by simp [Value.ownBlock] at e); have HO6 := hide hown; have HB6 := hide hb6; obtain ⟨-, -, -, -, -, -, -, -, -, c9, -, -, -, c13, -, cf⟩ := blk15 (HL5.out.below hb6); have hlt6 : b < w6.heap.size := Nat.lt_of_lt_of_le (by omega) hb6.size; clear hown hgrow hat hb6)
  go_ret
  obtain ⟨g, e1, e2, e3, e4⟩ := own_cell0 HO6.out
  cases e1
  have hne : g' ≠ b := by omega
  have hk : ∀ k, k ≠ b → ((w6.setCell ⟨b, 9, none⟩ (.bool false)).setCell ⟨b, 13, none⟩ (.bool false)).heap[k]? = w6.heap[k]? := fun k hk =>
    (Below.heap_setCell _ _ _ _ (by simpa using hk)).trans (Below.heap_setCell _ _ _ _ (by simpa using hk))
  have hbt : C.But b w1 w6 := HBt5.out.trans (C.but_of HB6.out b)
  refine ⟨g', cap', sq, m, rfl, ?_, HM.out, ?_, ?_⟩
  · rw [World.cell?_of_block (w := w6) (a := ⟨g', 0, none⟩) (hk g' hne)]; exact e2
  · refine Mine.c_bytes HMi.out hsm.out (fun k h1 h2 => ?_)
    have hb4 := HL3.out
    have : b < w4.heap.size := C.lt_of_block hb4
    exact (hk k (by omega)).trans (HB6.out.block k h2)
  · exact (hbt.setCell (p := ⟨b, 9, none⟩) (Or.inl rfl) _).setCell (p := ⟨b, 13, none⟩) (Or.inl rfl) _
/-- begun: a link's first word is read. -/
def fr3 : Fr := ⟨0, 2, 3, 0, 0, 0, []⟩
theorem fr3_fit : fr3.fit := by unfold Fr.fit fr3; simp
theorem fr3_small : fr3.small := by intro x hx; simp [fr3] at hx
set_option maxRecDepth 100000 in
set_option maxHeartbeats 2000000 in
theorem begun_any (w : World) (hT : C.Tab w) : Calls Tryd.prog 11 #[] w fun e w' => e = .returned (.bool true) ∧ Below w.heap.size w w' := by
  have hpos := hT.pos
  have HN := hide (new_any w 0 2 3 2 4)
  have HT := hide hT
  clear hT
  go_enter Tryd.func11, Tryd.ntmps11
  go_wp2_with fail
  refine HN.out.mono ?_
  rintro e w1 ⟨rfl, hl1, hb1⟩
  have HK := hide (known_any w1 _ _ _ hl1)
  have HL := hide (len_any w1 _ _ _ _ _ hl1)
  have HL1 := hide hl1
  have HB1 := hide hb1
  clear hl1 hb1
  go_wp2_with fail
  refine HK.out.mono ?_
  rintro e w2 ⟨rfl, rfl⟩
  go_wp2_with fail
  refine HL.out.mono ?_
  rintro e w3 ⟨rfl, rfl⟩
  have HTk := hide (tick_word w3 w.heap.size _ 0 HL1.out rfl rfl (by simp [Lk.new]) ⟨by simp [Lk.new], by simp [Lk.new], by intro m; simp [Lk.new]; omega⟩ rfl rfl (HT.out.below HB1.out hpos) hpos)
  have hef : lfr (Lk.new 0 2 3 2 4) 0 ⟨#[]⟩ = fr3 := rfl
  rw [hef] at HTk
  have hee : encB fr3 = fr3.bytes := by unfold encB; rw [if_pos fr3_fit]
  rw [hee] at HTk
  have HDc := hide (dec_bytes fr3_fit fr3_small)
  have HLn : Hid (fr3.bytes.length ≤ 2088) := by show _ ≤ _; rw [← hee]; exact encB_len fr3
  clear hef hee HK HL
  generalize fr3.bytes = FB at *
  go_wp2_with fail
  refine HTk.out.mono ?_
  rintro e w4 ⟨g, cp, sq, m, rfl, hc, hm, hby, hbt⟩
  have HB4 : Hid (Below w.heap.size w w4) := hbt.below HB1.out (Nat.le_refl _) HB1.out.size
  have HD := hide (dec_any w4 sq m m FB hm.symm (Nat.le_refl _) (by have := HLn.out; omega) (Bytes.of_c hby) (HT.out.below HB4.out hpos))
  clear HTk hm hby hbt
  go_wp2_with fail
  refine HD.out.mono ?_
  rintro e w5 (⟨f, sq2, hd, rfl, hmi, hb5⟩ | ⟨hd, _, _⟩)
  · rw [HDc.out] at hd
    cases hd
    have hv : frV fr3 sq2 fr3.body.length = .agg #[.int .i64 0, .int .i64 2, .int .u64 3, .int .u64 0, .int .u64 0, .int .u64 0, .slice sq2 0 0] := rfl
    rw [hv]
    have HB5 := hide (HB4.out.trans (hb5.mono HB4.out.size))
    have HQ : ∀ w6, Hid (Calls Tryd.prog 10 #[.agg #[.int .i64 0, .int .i64 2, .int .u64 3, .int .u64 0, .int .u64 0, .int .u64 0, .slice sq2 0 0], .agg #[.int .i64 0, .int .i64 2, .int .u64 3, .int .u64 0, .int .u64 0, .int .u64 0, .slice none 0 0]] w6 fun e w' => ∃ r, e = .returned (.bool r) ∧ (r = true ↔ fr3 = fr3) ∧ Below w6.heap.size w6 w') := fun w6 =>
      hide (eqfr_any w6 fr3 fr3 sq2 none 0 0 ⟨fr3_small, Or.inl rfl⟩ ⟨fr3_small, Or.inl rfl⟩ (by simp [fr3]) (by simp [fr3]))
    clear hmi hb5 hv HD hc
    go_wp2_with fail
    refine (HQ _).out.mono ?_
    rintro e w7 ⟨r, rfl, hr, hb7⟩
    obtain rfl : r = true := hr.2 (by first | trivial | rfl)
    have HB7 : Hid (Below w.heap.size w w7) := (HB5.out.alloc HB5.out.size _).trans (hb7.mono (by have := HB5.out.size; simp; omega))
    clear hr hb7
    go_wp2
    go_ret
    exact ⟨rfl, HB7.out⟩
  · rw [HDc.out] at hd; cases hd
end Go.Proofs.YtfjhbbekeibpkaaDoor
namespace Go.Proofs.YtfjhbbekeibpkaaDoor
open Go.RowKit

/-- A ROW OF ONE's OWN AT AN OFFSET: what is left of an own row behind `s = s[n:]`. -/
def ownsAt (w : World) (base : Nat) (e : TypeId) (size : Nat) (v : Value) (n : Nat) (xs : List Value) : Prop :=
  xs.length = n * size ∧ ((v = .slice none 0 0 ∧ n = 0) ∨ ∃ g o cap cur, v = .slice (some ⟨g, o, none⟩) n cap ∧ base ≤ g ∧ w.heap[g]? = some (.cells cur e (0, 0)) ∧ n ≤ cap ∧ cap ≤ maxLen ∧ o + cap * size ≤ cur.size ∧ (cur.toList.drop o).take (n * size) = xs)
theorem ownsAt_of {w : World} {base : Nat} {e : TypeId} {size : Nat} {v : Value} {n : Nat} {xs : List Value} (h : w.ownsRow base e size v n xs) : ownsAt w base e size v n xs := by
  refine ⟨h.1, h.2.imp id ?_⟩
  rintro ⟨g, cap, cur, h1, h2, h3, h4, h5, h6, h7⟩
  exact ⟨g, 0, cap, cur, h1, h2, h3, h4, h5, by omega, by simpa using h7⟩
theorem ownsAt.lt {w : World} {base : Nat} {e : TypeId} {size : Nat} {v : Value} {n : Nat} {xs : List Value} (h : ownsAt w base e size v n xs) : ∀ k, v.ownBlock = some k → base ≤ k ∧ k < w.heap.size := by
  intro k hk
  rcases h.2 with ⟨h1, _⟩ | ⟨g, o, cap, cur, h1, h2, h3, _⟩
  · rw [h1] at hk; simp [Value.ownBlock] at hk
  · rw [h1] at hk; simp [Value.ownBlock] at hk; subst hk; exact ⟨h2, C.lt_of_block h3⟩
theorem ownsAt.same {w w' : World} {base : Nat} {e : TypeId} {size : Nat} {v : Value} {n : Nat} {xs : List Value} (h : ownsAt w base e size v n xs) (hs : ∀ g, v.ownBlock = some g → w'.heap[g]? = w.heap[g]?) : ownsAt w' base e size v n xs := by
  refine ⟨h.1, h.2.imp id ?_⟩
  rintro ⟨g, o, cap, cur, h1, h2, h3, r⟩
  exact ⟨g, o, cap, cur, h1, h2, (hs g (by rw [h1]; rfl)).trans h3, r⟩
/-- The front leaves. -/
theorem ownsAt.drop {w : World} {base : Nat} {e : TypeId} {size : Nat} {g o cap n : Nat} {xs : List Value} (h : ownsAt w base e size (.slice (some ⟨g, o, none⟩) n cap) n xs) (k : Nat) (hk : k ≤ n) : ownsAt w base e size (.slice (some ⟨g, o + k * size, none⟩) (n - k) (cap - k)) (n - k) (xs.drop (k * size)) := by
  have hn := h.1
  rcases h.2 with ⟨h1, _⟩ | ⟨g', o', cap', cur, h1, h2, h3, h4, h5, h6, h7⟩
  · cases h1
  · cases h1
    refine ⟨by rw [List.length_drop, hn, Nat.sub_mul], Or.inr ⟨g, _, _, cur, rfl, h2, h3, by omega, by omega, ?_, ?_⟩⟩
    · rw [Nat.sub_mul]
      have : k * size ≤ cap * size := Nat.mul_le_mul_right _ (by omega)
      omega
    · rw [← h7, List.drop_take, List.drop_drop, Nat.sub_mul]
theorem ownsAt.cells {w : World} {base : Nat} {e : TypeId} {size : Nat} {g o cap n : Nat} {xs : List Value} (h : ownsAt w base e size (.slice (some ⟨g, o, none⟩) n cap) n xs) : ∀ j u, xs[j]? = some u → w.cell? ⟨g, o + j, none⟩ = some u := by
  intro j u hu
  have hn := h.1
  rcases h.2 with ⟨h1, _⟩ | ⟨g', o', cap', cur, h1, h2, h3, h4, h5, h6, h7⟩
  · cases h1
  · cases h1
    have hj : j < n * size := by rw [← hn]; exact (List.getElem?_eq_some_iff.1 hu).1
    rw [← h7, List.getElem?_take, if_pos hj, List.getElem?_drop] at hu
    simp only [World.cell?, h3]
    simpa using hu
theorem run_append_room_at {P : Program} (w : World) (t ty e : TypeId) (i : TypeInfo) (ht : P.underlying t = some (.slice e)) (hi : P.info? e = some i)
    (g o sLen sCap : Nat) (cur : Array Value) (hg : w.heap[g]? = some (.cells cur e (0, 0)))
    (a : Addr) (m c : Nat) (news : List Value) (hl : news.length = m * i.size) (hnews : ∀ j u, news[j]? = some u → w.cell? (a.add j) = some u) (h1 : ∀ u ∈ news, u.oneCell' = true)
    (hroom : sLen + m ≤ sCap) (hfit : o + sLen * i.size + news.length ≤ cur.size) :
    (Builtin.append_ #[t, t] ty #[.slice (some ⟨g, o, none⟩) sLen sCap, .slice (some a) m c]).run P w =
      .ok (.slice (some ⟨g, o, none⟩) (sLen + m) sCap) (w.setRow g (cur.toList.take (o + sLen * i.size) ++ news ++ cur.toList.drop (o + sLen * i.size + news.length)).toArray) := by
  have hf := run_firstCells_some (P := P) w i.size m a m c news hl hnews
  have hst := run_storeCells_at P g (o + sLen * i.size) e news 0 cur w hg (by simpa using hfit) h1
  simp only [Nat.add_zero] at hst
  simp [Builtin.append_, run_underlying ht, sizeOf, typeInfo, hi, Builtin.lenOf, hroom, hf, Addr.add_lit, hst]
theorem run_append_at {P : Program} (w : World) (base : Nat) (t ty e : TypeId) (i : TypeInfo) (z : Value) (size bytes : Nat) (ht : P.underlying t = some (.slice e)) (hi : P.info? e = some i) (hz : i.zero = some z)
    (hsize : i.size = size) (hby : i.bytes = bytes) (hzs : z.cells.size = size)
    (v : Value) (n : Nat) (xs : List Value) (hown : ownsAt w base e size v n xs)
    (a : Addr) (m c : Nat) (news : List Value) (hl : news.length = m * size) (hnews : ∀ j u, news[j]? = some u → w.cell? (a.add j) = some u) (h1 : ∀ u ∈ news, u.oneCell' = true) (hm : 0 < m)
    (h63 : n + m ≤ maxLen) (hbytes : (n + m) * bytes ≤ 140737488355328) (hbase : base ≤ w.heap.size) :
    ∃ g o cap w', (Builtin.append_ #[t, t] ty #[v, .slice (some a) m c]).run P w = .ok (.slice (some ⟨g, o, none⟩) (n + m) cap) w' ∧ ownsAt w' base e size (.slice (some ⟨g, o, none⟩) (n + m) cap) (n + m) (xs ++ news) ∧ w.grownBy w' v.ownBlock ∧ (v.ownBlock = some g ∨ g = w.heap.size) := by
  subst hsize
  subst hby
  have hsmall : n + m ≤ 9223372036854775807 := by simp only [maxLen] at h63; omega
  have hlen : (xs ++ news).length = (n + m) * i.size := by rw [List.length_append, hown.1, hl, Nat.add_mul]
  have grown : ∀ (old : Nat), old < n + m → ∀ (row : Option Nat),
      ownsAt (w.drew.alloc (.cells (xs.toArray ++ news.toArray ++ Builtin.zeroCells z.cells (grownCap w (n + m) old e - (n + m))) e)) base e i.size
        (.slice (some ⟨w.heap.size, 0, none⟩) (n + m) (grownCap w (n + m) old e)) (n + m) (xs ++ news) ∧
      w.grownBy (w.drew.alloc (.cells (xs.toArray ++ news.toArray ++ Builtin.zeroCells z.cells (grownCap w (n + m) old e - (n + m))) e)) row := by
    intro old ho row
    have hge := grownCap_ge w (n + m) old e
    have hcm : grownCap w (n + m) old e ≤ maxLen := grownCap_le_maxLen w (n + m) old e h63
    refine ⟨⟨hlen, .inr ⟨w.heap.size, 0, _, _, rfl, hbase, heap_alloc_new w.drew _, hge, hcm, ?_, ?_⟩⟩, ⟨rfl, rfl, rfl, by simp, fun k hk _ => heap_alloc_old w.drew _ hk⟩⟩
    · simp only [Array.size_append, List.size_toArray, size_zeroCells, hzs, hown.1, hl, ← Nat.add_mul, Nat.zero_add]
      apply Nat.le_of_eq
      congr 1
      omega
    · simp only [Array.toList_append, List.append_assoc, List.drop_zero]
      rw [← List.append_assoc, ← hlen]
      exact List.take_left
  rcases hown.2 with ⟨rfl, rfl⟩ | ⟨g, o, cap, cur, rfl, hbg, hg, hnc, hcm, hcs, htake⟩
  · have hx : xs = [] := List.eq_nil_of_length_eq_zero (by simpa using hown.1)
    subst hx
    have hr := run_append_nil (P := P) w t ty e i z ht hi hz a m c news hl hnews (by omega) (by omega) (by have hb := hbytes; simp only [Nat.zero_add] at hb; omega)
    have hgr := grown 0 (by omega) (Value.ownBlock (.slice none 0 0))
    simp only [Nat.zero_add, List.nil_append, Array.empty_append] at hgr ⊢
    exact ⟨_, _, _, _, hr, hgr.1, hgr.2, Or.inr rfl⟩
  · by_cases hroom : n + m ≤ cap
    · have hfit : o + n * i.size + news.length ≤ cur.size := by
        rw [hl]
        have : (n + m) * i.size ≤ cap * i.size := Nat.mul_le_mul_right _ hroom
        rw [Nat.add_mul] at this
        omega
      have hr := run_append_room_at (P := P) w t ty e i ht hi g o n cap cur hg a m c news hl hnews h1 hroom hfit
      have hto : (cur.toList.take (o + n * i.size)).drop o = xs := by rw [List.drop_take, Nat.add_sub_cancel_left]; exact htake
      have hol : o ≤ (cur.toList.take (o + n * i.size)).length := by simp; omega
      refine ⟨_, _, _, _, hr, ⟨hlen, .inr ⟨g, o, cap, _, rfl, hbg, setRow_heap w g cur _ e _ hg, hroom, hcm, ?_, ?_⟩⟩, ⟨rfl, rfl, rfl, by simp, fun k _ hk => setRow_other w g k _ (fun e => hk (by simp [Value.ownBlock, e]))⟩, Or.inl rfl⟩
      · simp only [List.size_toArray, List.length_append, List.length_take, List.length_drop, Array.length_toList]
        omega
      · simp only [List.append_assoc]
        rw [List.drop_append_of_le_length hol, hto, ← List.append_assoc, ← hlen]
        exact List.take_left
    · have holds : ∀ j u, xs[j]? = some u → w.cell? ((⟨g, o, none⟩ : Addr).add j) = some u := fun j u hu => by
        rw [Addr.add_lit]
        exact ownsAt.cells hown j u hu
      have hr := run_append_grow (P := P) w t ty e i z ht hi hz ⟨g, o, none⟩ n cap xs hown.1 holds a m c news hl hnews (by omega) (by omega) (growslice_fits (by omega) hbytes)
      have hgr := grown cap (by omega) (Value.ownBlock (.slice (some ⟨g, o, none⟩) n cap))
      exact ⟨_, _, _, _, hr, hgr.1, hgr.2, Or.inr rfl⟩
/-- At the operation. -/
theorem wp_append_at {P : Program} (w : World) {o : Oper} {a : Act} {K : Act → World → Prop} {Q : Exit → Act → World → Prop} (s x : Operand) (t : TypeId)
    (ho : o.op = .call { callee := .builtin .append, args := #[s, x], argTypes := #[t, t] })
    (base : Nat) (e : TypeId) (i : TypeInfo) (z : Value) (size bytes : Nat) (ht : P.underlying t = some (.slice e)) (hi : P.info? e = some i) (hz : i.zero = some z)
    (hsize : i.size = size) (hby : i.bytes = bytes) (hzs : z.cells.size = size)
    (v : Value) (n : Nat) (xs : List Value) (hs : a.eval s = v) (hown : ownsAt w base e size v n xs)
    (ad : Addr) (m c : Nat) (news : List Value) (hx : a.eval x = .slice (some ad) m c) (hl : news.length = m * size) (hnews : ∀ j u, news[j]? = some u → w.cell? (ad.add j) = some u) (h1 : ∀ u ∈ news, u.oneCell' = true)
    (hm : 0 < m) (h63 : n + m ≤ maxLen) (hbytes : (n + m) * bytes ≤ 140737488355328) (hbase : base ≤ w.heap.size)
    (h : ∀ g d cap w', ownsAt w' base e size (.slice (some ⟨g, d, none⟩) (n + m) cap) (n + m) (xs ++ news) → w.grownBy w' v.ownBlock → (v.ownBlock = some g ∨ g = w.heap.size) → K (a.put o.dst (.slice (some ⟨g, d, none⟩) (n + m) cap)) w') : o.wp P a w K Q := by
  obtain ⟨g, d, cap, w', hr, h2, h3, h4⟩ := run_append_at (P := P) w base t o.type e i z size bytes ht hi hz hsize hby hzs v n xs hown ad m c news hl hnews h1 hm h63 hbytes hbase
  unfold Oper.wp execOp
  simp only [ho, resolve, invoke, builtin, Sem.run_bind, Sem.run_pure, Result.andThen_ok, List.map_toArray, List.map_cons, List.map_nil, hs, hx, hr]
  exact h g d cap w' h2 h3 h4
/-- In a region that draws. -/
theorem step_append_at {P : Program} (w : World) {ops : Array Oper} {o : Oper} {a : Act} {K : Act → World → Prop} {Q : Exit → Act → World → Prop} {E : Prop} (hgd : o.guard = none) (s x : Operand) (t : TypeId)
    (ho : o.op = .call { callee := .builtin .append, args := #[s, x], argTypes := #[t, t] })
    (base : Nat) (e : TypeId) (i : TypeInfo) (z : Value) (size bytes : Nat) (ht : P.underlying t = some (.slice e)) (hi : P.info? e = some i) (hz : i.zero = some z)
    (hsize : i.size = size) (hby : i.bytes = bytes) (hzs : z.cells.size = size)
    (v : Value) (n : Nat) (xs : List Value) (hs : a.eval s = v) (hown : ownsAt w base e size v n xs)
    (ad : Addr) (m c : Nat) (news : List Value) (hx : a.eval x = .slice (some ad) m c) (hl : news.length = m * size) (hnews : ∀ j u, news[j]? = some u → w.cell? (ad.add j) = some u) (h1 : ∀ u ∈ news, u.oneCell' = true)
    (hm : 0 < m) (h63 : n + m ≤ maxLen) (hbytes : (n + m) * bytes ≤ 140737488355328) (hbase : base ≤ w.heap.size)
    (h : ∀ g d cap w', ownsAt w' base e size (.slice (some ⟨g, d, none⟩) (n + m) cap) (n + m) (xs ++ news) → w.grownBy w' v.ownBlock → (v.ownBlock = some g ∨ g = w.heap.size) → K (a.put o.dst (.slice (some ⟨g, d, none⟩) (n + m) cap)) w') :
    if Region.wanted o (yielded ops a.tmps) = true then Oper.wp P o a w K Q else E := by
  have hw : Region.wanted o (yielded ops a.tmps) = true := by simp [Region.wanted, hgd]
  rw [if_pos hw]
  exact wp_append_at w s x t ho base e i z size bytes ht hi hz hsize hby hzs v n xs hs hown ad m c news hx hl hnews h1 hm h63 hbytes hbase h
end Go.Proofs.YtfjhbbekeibpkaaDoor
