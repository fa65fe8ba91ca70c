import Derived.Lib.ConvBytes
import Derived.Test.YtjcdnclfakmbpaaGreatDoorLkH
import Derived.Laws.BitsAllLaws
namespace Go.Proofs.YtjcdnclfakmbpaaGreatDoor
open Go.RowKit
def nums (s : ByteArray) : List Nat := s.data.toList.map (·.toNat)
theorem nums_len (s : ByteArray) : (nums s).length = s.size := by simp [nums]
theorem nums_small (s : ByteArray) : ∀ x ∈ nums s, x < 256 := by
  intro x hx
  simp only [nums, List.mem_map] at hx
  obtain ⟨y, _, rfl⟩ := hx
  exact y.toNat_lt
structure Told (w : World) (g c : Nat) (s : ByteArray) : Prop where
  blk : ∃ xs : List Nat, w.heap[g]? = some (.cells (vals xs).toArray 5 (c, c + 1)) ∧ xs.length = c ∧ xs.take s.size = nums s ∧ ∀ x ∈ xs, x < 256
  le : s.size ≤ c
  max : s.size ≤ maxLen → c ≤ maxLen
theorem Told.bytes {w : World} {g c : Nat} {s : ByteArray} (h : Told w g c s) : Bytes w (some ⟨g, 0, none⟩) (nums s) := by
  obtain ⟨⟨xs, h1, h2, h3, _⟩, h4, _⟩ := h
  refine ⟨nums_small s, Or.inr ⟨g, 0, rfl, C.lt_of_block h1, fun j hj => ?_⟩⟩
  rw [nums_len] at hj
  have hx : xs[j]? = (nums s)[j]? := by rw [← h3, List.getElem?_take, if_pos hj]
  simp only [World.cell?, h1, Nat.zero_add, vals]
  simp only [List.getElem?_toArray, List.getElem?_map, hx, List.getD]
  rw [List.getElem?_eq_getElem (by rw [nums_len]; exact hj)]
  rfl
theorem told_new (w : World) (s : ByteArray) : Told (Lib.bytesWorld w 5 s) w.heap.size (grownCap w s.size 0 5) s := by
  have hge := grownCap_ge w s.size 0 5
  have hmx := grownCap_le_maxLen w s.size 0 5
  refine ⟨⟨nums s ++ List.replicate (grownCap w s.size 0 5 - s.size) 0, ?_, ?_, ?_, ?_⟩, hge, hmx⟩
  · rw [Lib.bytesWorld_at_new]
    have e : Lib.bytesCells w 5 s = (vals (nums s ++ List.replicate (grownCap w s.size 0 5 - s.size) 0)).toArray := by
      apply Array.ext'
      simp [Lib.bytesCells, vals, nums, Function.comp_def]
    rw [e]
    simp [vals, nums_len]
    omega
  · simp [nums_len]; omega
  · rw [List.take_append_of_le_length (by rw [nums_len]; omega), List.take_of_length_le (by rw [nums_len]; omega)]
  · intro x hx
    rcases List.mem_append.1 hx with h | h
    · exact nums_small s x h
    · rw [List.mem_replicate] at h; omega
def lfr (L : Lk) (n : Nat) (s : ByteArray) : Fr := ⟨L.me, L.other, L.life, L.known, n, L.handed, nums s⟩
set_option maxRecDepth 100000 in
set_option maxHeartbeats 2000000 in
set_option linter.unusedSimpArgs false in
theorem frame_any (w : World) (b : Nat) (L : Lk) (rv : Value) (n : Nat) (s : ByteArray) (h : Lb w b L rv) (hT : C.Tab w) :
    Calls Tryz.prog 39 #[.pointer (some ⟨b, 0, none⟩), .agg #[.int .u64 (n : Int), .string s]] w fun e w' => ∃ sq m, m = (encB (lfr L n s)).length ∧ e = .returned (.slice sq m m) ∧ C.Mine w.heap.size w' sq (encB (lfr L n s)) ∧ Below w.heap.size w w' := by
  have hlt := C.lt_of_block h
  obtain ⟨w1, hw1⟩ : ∃ w1, w.alloc (.cells #[.int .u64 (n : Int), .string s] 111) = w1 := ⟨_, rfl⟩
  have hb1 : Below w.heap.size w w1 := by rw [← hw1]; exact (Below.refl _ _).alloc (Nat.le_refl _) _
  have hk1 : w1.heap[w.heap.size]? = some (.cells #[.int .u64 (n : Int), .string s] 111 (0, 0)) := by rw [← hw1]; exact heap_alloc_new _ _
  obtain ⟨c0, c1, c2, -, c4, -, -, -, c8, -⟩ := blk15 (h.below hb1)
  have d0 : w1.cell? ⟨w.heap.size, 0, none⟩ = some (.int .u64 (n : Int)) := by simp [World.cell?, hk1]
  have d1 : w1.cell? ⟨w.heap.size, 1, none⟩ = some (.string s) := by simp [World.cell?, hk1]
  have hcv := Lib.run_convert_string_bytes (P := Tryz.prog) w1.drew _ _ 5 s Tryz.underlying9 Tryz.underlying31 Tryz.underlying5
  have ht := told_new w1.drew s
  have hb3 : Below w.heap.size w (Lib.bytesWorld w1.drew 5 s) := by
    refine ⟨hb1.os, hb1.tape, hb1.output, ?_, fun j hj => ?_⟩
    · rw [Lib.bytesWorld_size]; have := hb1.size; simp; omega
    · rw [Lib.bytesWorld_at_old _ _ _ _ (by have := hb1.size; simp; omega)]; exact hb1.block j hj
  obtain ⟨cp, hcp⟩ : ∃ cp, grownCap w1.drew s.size 0 5 = cp := ⟨_, rfl⟩
  rw [hcp] at ht hcv
  have hk3 : (Lib.bytesWorld w1.drew 5 s).heap[w.heap.size]? = some (.cells #[.int .u64 (n : Int), .string s] 111 (0, 0)) := by
    rw [Lib.bytesWorld_at_old _ _ _ _ (by rw [← hw1]; simp)]; exact hk1
  generalize Lib.bytesWorld w1.drew 5 s = w3 at *
  obtain ⟨x0, x1, x2, -, x4, -, -, -, x8, -⟩ := blk15 (h.below hb3)
  have y0 : w3.cell? ⟨w.heap.size, 0, none⟩ = some (.int .u64 (n : Int)) := by simp [World.cell?, hk3]
  have y1 : w3.cell? ⟨w.heap.size, 1, none⟩ = some (.string s) := by simp [World.cell?, hk3]
  have HL3 := hide (h.below hb3)
  have HK3 := hide hk3
  have HE := hide (enc_any w3 (lfr L n s) _ cp ht.bytes (hT.below hb3 hT.pos))
  have hns : (lfr L n s).body.length = s.size := nums_len s
  unfold frV at HE
  rw [hns] at HE
  simp only [lfr] at HE
  have HW := hide hw1
  have HB3 := hide hb3
  obtain ⟨EB, hEB⟩ : ∃ EB, encB ⟨L.me, L.other, L.life, L.known, n, L.handed, nums s⟩ = EB := ⟨_, rfl⟩
  rw [hEB] at HE
  have hEB2 : encB (lfr L n s) = EB := hEB
  rw [hEB2]
  clear hEB hEB2
  clear hcp hns ht hb3 hw1 h hk1 hT hk3
  go_enter Tryz.func39, Tryz.ntmps39
  go_upto_region 1 with (fail)
  rw [HW.out]
  refine wp_region_held_drew (S := (fun w' => w'.cell? ⟨b, 0, none⟩ = some (.int .i64 L.me) ∧ w'.cell? ⟨b, 1, none⟩ = some (.int .i64 L.other) ∧ w'.cell? ⟨b, 2, none⟩ = some (.int .u64 (L.life : Int)) ∧ w'.cell? ⟨b, 4, none⟩ = some (.int .u64 (L.known : Int)) ∧ w'.cell? ⟨b, 8, none⟩ = some (.int .u64 (L.handed : Int)) ∧ w'.cell? ⟨w.heap.size, 0, none⟩ = some (.int .u64 (n : Int)) ∧ w'.cell? ⟨w.heap.size, 1, none⟩ = some (.string s))) (by kernel_rfl) (by go_keep) (fun hHeld => ?_)
  refine wpAnyH_take (i := 0) (oi := _) (v := ?vd0) rfl (by kernel_rfl) (by kernel_rfl) (by kernel_rfl) (fun _ _ _ h => h) (Or.inl ⟨by rfl, ?yd0⟩) (by assumption) ?rd0
  case yd0 => (intro w hSw; (try dsimp only at hSw); go_simp; try with_reducible rfl)
  try simp only [Act.put, List.setIfInBounds_toArray, List.set_cons_zero, List.set_cons_succ]
  refine wpAnyH_take (i := 1) (oi := _) (v := ?vd1) rfl (by kernel_rfl) (by kernel_rfl) (by kernel_rfl) (fun _ _ _ h => h) (Or.inl ⟨by rfl, ?yd1⟩) (by assumption) ?rd1
  case yd1 => (intro w hSw; (try dsimp only at hSw); go_simp; try with_reducible rfl)
  try simp only [Act.put, List.setIfInBounds_toArray, List.set_cons_zero, List.set_cons_succ]
  refine wpAnyH_take (i := 2) (oi := _) (v := ?vd2) rfl (by kernel_rfl) (by kernel_rfl) (by kernel_rfl) (fun _ _ _ h => h) (Or.inl ⟨by rfl, ?yd2⟩) (by assumption) ?rd2
  case yd2 => (intro w hSw; (try dsimp only at hSw); go_simp; try with_reducible rfl)
  try simp only [Act.put, List.setIfInBounds_toArray, List.set_cons_zero, List.set_cons_succ]
  refine wpAnyH_take (i := 3) (oi := _) (v := ?vd3) rfl (by kernel_rfl) (by kernel_rfl) (by kernel_rfl) (fun _ _ _ h => h) (Or.inl ⟨by rfl, ?yd3⟩) (by assumption) ?rd3
  case yd3 => (intro w hSw; (try dsimp only at hSw); go_simp; try with_reducible rfl)
  try simp only [Act.put, List.setIfInBounds_toArray, List.set_cons_zero, List.set_cons_succ]
  refine wpAnyH_take (i := 4) (oi := _) (v := ?vd4) rfl (by kernel_rfl) (by kernel_rfl) (by kernel_rfl) (fun _ _ _ h => h) (Or.inl ⟨by rfl, ?yd4⟩) (by assumption) ?rd4
  case yd4 => (intro w hSw; (try dsimp only at hSw); go_simp; try with_reducible rfl)
  try simp only [Act.put, List.setIfInBounds_toArray, List.set_cons_zero, List.set_cons_succ]
  refine wpAnyH_take (i := 5) (oi := _) (v := ?vd5) rfl (by kernel_rfl) (by kernel_rfl) (by kernel_rfl) (fun _ _ _ h => h) (Or.inl ⟨by rfl, ?yd5⟩) (by assumption) ?rd5
  case yd5 => (intro w hSw; (try dsimp only at hSw); go_simp; try with_reducible rfl)
  try simp only [Act.put, List.setIfInBounds_toArray, List.set_cons_zero, List.set_cons_succ]
  refine wpAnyH_take (i := 6) (oi := _) (v := ?vd6) rfl (by kernel_rfl) (by kernel_rfl) (by kernel_rfl) (fun _ _ _ h => h) (Or.inl ⟨by rfl, ?yd6⟩) (by assumption) ?rd6
  case yd6 => (intro w hSw; (try dsimp only at hSw); go_simp; try with_reducible rfl)
  try simp only [Act.put, List.setIfInBounds_toArray, List.set_cons_zero, List.set_cons_succ]
  refine wpAnyH_take (i := 7) (oi := _) (v := ?vd7) rfl (by kernel_rfl) (by kernel_rfl) (by kernel_rfl) (fun _ _ _ h => h) (Or.inl ⟨by rfl, ?yd7⟩) (by assumption) ?rd7
  case yd7 => (intro w hSw; (try dsimp only at hSw); go_simp; try with_reducible rfl)
  try simp only [Act.put, List.setIfInBounds_toArray, List.set_cons_zero, List.set_cons_succ]
  refine wpAnyH_take (i := 8) (oi := _) (v := ?vd8) rfl (by kernel_rfl) (by kernel_rfl) (by kernel_rfl) (fun _ _ _ h => h) (Or.inl ⟨by rfl, ?yd8⟩) (by assumption) ?rd8
  case yd8 => (intro w hSw; (try dsimp only at hSw); go_simp; try with_reducible rfl)
  try simp only [Act.put, List.setIfInBounds_toArray, List.set_cons_zero, List.set_cons_succ]
  refine wpAnyH_take (i := 9) (oi := _) (v := ?vd9) rfl (by kernel_rfl) (by kernel_rfl) (by kernel_rfl) (fun _ _ _ h => h) (Or.inl ⟨by rfl, ?yd9⟩) (by assumption) ?rd9
  case yd9 => (intro w hSw; (try dsimp only at hSw); go_simp; try with_reducible rfl)
  try simp only [Act.put, List.setIfInBounds_toArray, List.set_cons_zero, List.set_cons_succ]
  refine wpAnyH_take (i := 10) (oi := _) (v := ?vd10) rfl (by kernel_rfl) (by kernel_rfl) (by kernel_rfl) (fun _ _ _ h => h) (Or.inl ⟨by rfl, ?yd10⟩) (by assumption) ?rd10
  case yd10 => (intro w hSw; (try dsimp only at hSw); go_simp; try with_reducible rfl)
  try simp only [Act.put, List.setIfInBounds_toArray, List.set_cons_zero, List.set_cons_succ]
  refine wpAnyH_take (i := 11) (oi := _) (v := ?vd11) rfl (by kernel_rfl) (by kernel_rfl) (by kernel_rfl) (fun _ _ _ h => h) (Or.inl ⟨by rfl, ?yd11⟩) (by assumption) ?rd11
  case yd11 => (intro w hSw; (try dsimp only at hSw); go_simp; try with_reducible rfl)
  try simp only [Act.put, List.setIfInBounds_toArray, List.set_cons_zero, List.set_cons_succ]
  refine wpAnyH_take (i := 12) (oi := _) (v := ?vd12) rfl (by kernel_rfl) (by kernel_rfl) (by kernel_rfl) (fun _ _ _ h => h) (Or.inl ⟨by rfl, ?yd12⟩) (by assumption) ?rd12
  case yd12 => (intro w hSw; (try dsimp only at hSw); go_simp; try with_reducible rfl)
  try simp only [Act.put, List.setIfInBounds_toArray, List.set_cons_zero, List.set_cons_succ]
  refine wpAnyH_take (i := 13) (oi := _) (v := ?vd13) rfl (by kernel_rfl) (by kernel_rfl) (by kernel_rfl) (fun _ _ _ h => h) (Or.inl ⟨by rfl, ?yd13⟩) (by assumption) ?rd13
  case yd13 => (intro w hSw; (try dsimp only at hSw); go_simp; try with_reducible rfl)
  try simp only [Act.put, List.setIfInBounds_toArray, List.set_cons_zero, List.set_cons_succ]
  refine wpAnyH_take (i := 14) (oi := _) (v := ?vd14) rfl (by kernel_rfl) (by kernel_rfl) (by kernel_rfl) (fun _ _ _ h => h) (Or.inl ⟨by rfl, ?yd14⟩) (by assumption) ?rd14
  case yd14 => (intro w hSw; (try dsimp only at hSw); go_simp; try with_reducible rfl)
  try simp only [Act.put, List.setIfInBounds_toArray, List.set_cons_zero, List.set_cons_succ]
  refine wpAnyH_take (i := 15) (oi := _) (v := ?vd15) rfl (by kernel_rfl) (by kernel_rfl) (by kernel_rfl) (fun _ _ _ h => h) (Or.inl ⟨by rfl, ?yd15⟩) (by assumption) ?rd15
  case yd15 => (intro w hSw; (try dsimp only at hSw); go_simp; try with_reducible rfl)
  try simp only [Act.put, List.setIfInBounds_toArray, List.set_cons_zero, List.set_cons_succ]
  refine wpAnyH_take (i := 16) (oi := _) (v := ?vd16) rfl (by kernel_rfl) (by kernel_rfl) (by kernel_rfl) (fun _ _ _ h => h) (Or.inl ⟨by rfl, ?yd16⟩) (by assumption) ?rd16
  case yd16 => (intro w hSw; (try dsimp only at hSw); go_simp; try with_reducible rfl)
  try simp only [Act.put, List.setIfInBounds_toArray, List.set_cons_zero, List.set_cons_succ]
  refine wpAnyH_take (i := 17) (oi := _) (v := ?vd17) rfl (by kernel_rfl) (by kernel_rfl) (by kernel_rfl) (fun _ _ _ h => h) (Or.inl ⟨by rfl, ?yd17⟩) (by assumption) ?rd17
  case yd17 => (intro w hSw; (try dsimp only at hSw); go_simp; try with_reducible rfl)
  try simp only [Act.put, List.setIfInBounds_toArray, List.set_cons_zero, List.set_cons_succ]
  refine wpAnyH_take (i := 18) (oi := _) (v := ?vd18) rfl (by kernel_rfl) (by kernel_rfl) (by kernel_rfl) (fun _ _ _ h => h) (Or.inl ⟨by rfl, ?yd18⟩) (by assumption) ?rd18
  case yd18 => (intro w hSw; (try dsimp only at hSw); go_simp; try with_reducible rfl)
  try simp only [Act.put, List.setIfInBounds_toArray, List.set_cons_zero, List.set_cons_succ]
  refine wpAnyH_take (i := 19) (oi := _) (v := ?vd19) rfl (by kernel_rfl) (by kernel_rfl) (by kernel_rfl) (fun _ _ _ h => h) (Or.inl ⟨by rfl, ?yd19⟩) (by assumption) ?rd19
  case yd19 => (intro w hSw; (try dsimp only at hSw); go_simp; try with_reducible rfl)
  try simp only [Act.put, List.setIfInBounds_toArray, List.set_cons_zero, List.set_cons_succ]
  refine wpAnyH_take (i := 20) (oi := _) (v := ?vd20) rfl (by kernel_rfl) (by kernel_rfl) (by kernel_rfl) (fun _ _ _ h => h) (Or.inl ⟨by rfl, ?yd20⟩) (by assumption) ?rd20
  case yd20 => (intro w hSw; (try dsimp only at hSw); go_simp; try with_reducible rfl)
  try simp only [Act.put, List.setIfInBounds_toArray, List.set_cons_zero, List.set_cons_succ]
  refine wpAnyH_take (i := 21) (oi := _) (v := ?vd21) rfl (by kernel_rfl) (by kernel_rfl) (by kernel_rfl) (fun _ _ _ h => h) (Or.inl ⟨by rfl, ?yd21⟩) (by assumption) ?rd21
  case yd21 => (intro w hSw; (try dsimp only at hSw); go_simp; try with_reducible rfl)
  try simp only [Act.put, List.setIfInBounds_toArray, List.set_cons_zero, List.set_cons_succ]
  refine wpAnyH_take (i := 22) (oi := _) (v := ?vd22) rfl (by kernel_rfl) (by kernel_rfl) (by kernel_rfl) (fun _ _ _ h => h) (Or.inl ⟨by rfl, ?yd22⟩) (by assumption) ?rd22
  case yd22 => (intro w hSw; (try dsimp only at hSw); go_simp; try with_reducible rfl)
  try simp only [Act.put, List.setIfInBounds_toArray, List.set_cons_zero, List.set_cons_succ]
  refine wpAnyH_take (i := 23) (oi := _) (v := ?vd23) rfl (by kernel_rfl) (by kernel_rfl) (by kernel_rfl) (fun _ _ _ h => h) (Or.inl ⟨by rfl, ?yd23⟩) (by assumption) ?rd23
  case yd23 => (intro w hSw; (try dsimp only at hSw); go_simp; try with_reducible rfl)
  try simp only [Act.put, List.setIfInBounds_toArray, List.set_cons_zero, List.set_cons_succ]
  refine wpAnyH_take (i := 24) (oi := _) (v := ?vd24) rfl (by kernel_rfl) (by kernel_rfl) (by kernel_rfl) (fun _ _ _ h => h) (Or.inl ⟨by rfl, ?yd24⟩) (by assumption) ?rd24
  case yd24 => (intro w hSw; (try dsimp only at hSw); go_simp; try with_reducible rfl)
  try simp only [Act.put, List.setIfInBounds_toArray, List.set_cons_zero, List.set_cons_succ]
  refine wpAnyH_take (i := 25) (oi := _) (v := ?vd25) rfl (by kernel_rfl) (by kernel_rfl) (by kernel_rfl) (fun _ _ _ h => h) (Or.inl ⟨by rfl, ?yd25⟩) (by assumption) ?rd25
  case yd25 => (intro w hSw; (try dsimp only at hSw); go_simp; try with_reducible rfl)
  try simp only [Act.put, List.setIfInBounds_toArray, List.set_cons_zero, List.set_cons_succ]
  refine wpAnyH_ready (rs := [26]) (by kernel_rfl) (by simp) ?_
  refine AllReadyH.cons (o := _) rfl (fun KK hKK => ?_) AllReadyH.nil
  go_simp
  try go_wp2_with fail
  refine hKK.out _ _ (by (try dsimp only); go_keep) (fun hHeld => ?_)
  clear hKK KK
  try simp only [Act.put, List.setIfInBounds_toArray, List.set_cons_zero, List.set_cons_succ]
  refine wpAnyH_take (i := 27) (oi := _) (v := ?vd27) rfl (by kernel_rfl) (by kernel_rfl) (by kernel_rfl) (fun _ _ _ h => h) (Or.inl ⟨by rfl, ?yd27⟩) (by assumption) ?rd27
  case yd27 => (intro w hSw; (try dsimp only at hSw); go_simp; try with_reducible rfl)
  try simp only [Act.put, List.setIfInBounds_toArray, List.set_cons_zero, List.set_cons_succ]
  refine wpAnyH_ready (rs := [28]) (by kernel_rfl) (by simp) ?_
  refine AllReadyH.cons (o := _) rfl (fun KK hKK => ?_) AllReadyH.nil
  go_simp
  (go_at_call 91; refine HE.out.mono ?_; rintro e w4 ⟨sq, rfl, hm, hb⟩; have HM := hide hm; have HB := hide hb; obtain ⟨z0, z1, z2, -, z4, -, -, -, z8, -⟩ := blk15 (HL3.out.below hb); have hk4 := (hb.block _ (C.lt_of_block HK3.out)).trans HK3.out; have u0 : w4.cell? ⟨w.heap.size, 0, none⟩ = some (.int .u64 (n : Int)) := (by simp [World.cell?, hk4]); have u1 : w4.cell? ⟨w.heap.size, 1, none⟩ = some (.string s) := (by simp [World.cell?, hk4]); clear hm hb hk4)
  try go_wp2_with fail
  refine hKK.out _ _ (by (try dsimp only); go_keep) (fun hHeld => ?_)
  clear hKK KK
  try simp only [Act.put, List.setIfInBounds_toArray, List.set_cons_zero, List.set_cons_succ]
  refine wpAnyH_take (i := 29) (oi := { dst := some 4, op := Op.assign (Operand.tmp 33), type := 31, pos := _, after := _, guard := none }) (v := ?vd29) rfl (by kernel_rfl) (by kernel_rfl) (by kernel_rfl) (fun _ _ _ h => h) (Or.inl ⟨by rfl, ?yd29⟩) (by assumption) ?rd29
  case yd29 => (intro w hSw; (try dsimp only at hSw); go_simp; try with_reducible rfl)
  try simp only [Act.put, List.setIfInBounds_toArray, List.set_cons_zero, List.set_cons_succ]
  refine wpAnyH_done (by kernel_rfl) ?_ _
  go_wp2
  go_ret
  refine ⟨sq, EB.length, rfl, rfl, ?_, HB3.out.trans (HB.out.mono HB3.out.size)⟩
  rcases HM.out with h | ⟨g, e1, e2, e3⟩
  · exact Or.inl h
  · exact Or.inr ⟨g, e1, Nat.le_trans HB3.out.size e2, e3⟩
end Go.Proofs.YtjcdnclfakmbpaaGreatDoor
namespace Go.Proofs.YtjcdnclfakmbpaaGreatDoor
open Go.RowKit
theorem Tryz.infoSl : (Tryz.prog.info? 31).map (fun i => (i.zero, i.size, i.bytes)) = some (some (.slice none 0 0), 1, 24) := by kernel_rfl
theorem own_cell0 {w : World} {B : Nat} {e : TypeId} {a : Option Addr} {cap : Nat} {x : Value} (h : w.ownsRow B e 1 (.slice a 1 cap) 1 [x]) : ∃ g, a = some ⟨g, 0, none⟩ ∧ w.cell? ⟨g, 0, none⟩ = some x ∧ B ≤ g ∧ g < w.heap.size := by
  rcases h.2 with ⟨h1, _⟩ | ⟨g, c, cur, h1, h2, h3, h4, h5, h6, h7⟩
  · cases h1
  · cases h1
    refine ⟨g, rfl, ?_, h2, C.lt_of_block h3⟩
    simp only [World.cell?, h3]
    have : cur.toList[0]? = some x := by
      have := congrArg (fun l : List Value => l[0]?) h7
      simpa [List.getElem?_take] using this
    simpa using this
theorem Mine.c_bytes {B : Nat} {w w' : World} {sq : Option Addr} {xs : List Nat} (h : C.Mine B w sq xs) (hs : ∀ x ∈ xs, x < 256) (hk : ∀ g, B ≤ g → g < w.heap.size → w'.heap[g]? = w.heap[g]?) : C.Bytes w' sq xs := by
  refine C.Mine.bytes (B := B) ?_ hs
  rcases h with h | ⟨g, e, h1, h2⟩
  · exact Or.inl h
  · exact Or.inr ⟨g, e, h1, (hk g h1 (C.lt_of_block h2)).trans h2⟩
set_option maxRecDepth 100000 in
theorem bodies_none (w : World) (b : Nat) (L : Lk) (rv : Value) (h : Lb w b L rv) (hk : L.known = 0) (fv : Value) :
    Calls Tryz.prog 37 #[.pointer (some ⟨b, 0, none⟩), fv] w fun e w' => e = .returned (.slice none 0 0) ∧ w' = w := by
  have HK := hide (known_any w b L rv h)
  rw [hk] at HK
  clear h
  go_enter Tryz.func37, Tryz.ntmps37
  go_wp2_with fail
  refine HK.out.mono ?_
  rintro e w1 ⟨rfl, rfl⟩
  go_wp2
  go_ret
  exact ⟨rfl, rfl⟩
set_option maxRecDepth 100000 in
set_option maxHeartbeats 2000000 in
theorem tick_word (w : World) (b : Nat) (L : Lk) (c : Nat) (h : Lb w b L (.slice none 0 c)) (hk : L.known = 0) (hp : L.paced = true) (hl : L.left ≤ 1) (ho : L.Pok) (ha : L.ack = false) (hs : L.asked = false) (hT : C.Tab w) (hb0 : 0 < b) :
    Calls Tryz.prog 16 #[.pointer (some ⟨b, 0, none⟩)] w fun e w' => ∃ g cp sq m, e = .returned (.slice (some ⟨g, 0, none⟩) 1 cp) ∧ w'.cell? ⟨g, 0, none⟩ = some (.slice sq m m) ∧ m = (encB (lfr L 0 ⟨#[]⟩)).length ∧ C.Bytes w' sq (encB (lfr L 0 ⟨#[]⟩)) ∧ C.But b w w' := by
  have HR := hide (rlen_any w b L none 0 c h)
  have HP := hide (ptick_any w b L _ h ho)
  have hn : lnow L = true := by unfold lnow; exact decide_eq_true hl
  rw [hn] at HP
  obtain ⟨-, -, -, -, -, -, -, -, -, -, -, -, -, -, c14, -⟩ := blk15 h
  rw [hp] at c14
  have HL := hide h
  have HT := hide hT
  have hlt := C.lt_of_block h
  have HK : Hid ((ltick L).known = 0 ∧ (ltick L).ack = false ∧ (ltick L).asked = false ∧ (ltick L).paced = true ∧ lfr (ltick L) 0 ⟨#[]⟩ = lfr L 0 ⟨#[]⟩) := by
    show _ ∧ _
    unfold ltick
    split <;> exact ⟨hk, ha, hs, hp, rfl⟩
  clear h hT hn
  go_enter Tryz.func16, Tryz.ntmps16
  go_wp2_with fail
  refine HR.out.mono ?_
  rintro e w1 ⟨rfl, rfl⟩
  go_wp2_with fail
  refine HP.out.mono ?_
  rintro e w2 ⟨rfl, hl2, ho2⟩
  obtain ⟨-, -, -, -, -, -, -, c7, -, -, -, -, -, -, -, -⟩ := blk15 hl2
  have hs2 := ho2.size
  have hlt2 : b < w2.heap.size := by omega
  have HL2 := hide hl2
  have HO2 := hide ho2
  clear hl2 ho2
  go_wp2_with fail
  obtain ⟨w3, hw3⟩ : ∃ w3, (w2.alloc (.cells #[.bool true] 4)).alloc (.cells #[.int .u64 ((ltick L).gone : Int)] 22) = w3 := ⟨_, rfl⟩
  rw [hw3]
  have hb3 : Below w2.heap.size w2 w3 := by rw [← hw3]; exact ((Below.refl _ _).alloc (Nat.le_refl _) _).alloc (by simp) _
  have ht3 : w3.heap[w1.heap.size]? = some (.cells #[.bool true] 4 (0, 0)) := by
    rw [← hw3, Below.heap_alloc _ _ _ (by simp; omega), ← hs2]; exact heap_alloc_new _ _
  have HL3 := hide (HL2.out.below hb3)
  have HB3 := hide hb3
  have HT3 := hide ht3
  clear hw3 hb3 ht3
  refine (bodies_none w3 b (ltick L) _ HL3.out HK.out.1 _).mono ?_
  rintro e w4 ⟨rfl, rfl⟩
  obtain ⟨-, -, -, -, -, -, -, -, -, c9, -, -, -, c13, c14', -⟩ := blk15 HL3.out
  rw [HK.out.2.1] at c9
  rw [HK.out.2.2.1] at c13
  rw [HK.out.2.2.2.1] at c14'
  have t0 : w4.cell? ⟨w1.heap.size, 0, none⟩ = some (.bool true) := by have := HT3.out; simp [World.cell?, this]
  have HB4 : Hid (C.But b w1 w4) := by
    refine ⟨HB3.out.os.trans HO2.out.os, HB3.out.tape.trans HO2.out.tape, HB3.out.output.trans HO2.out.output, by have := HB3.out.size; omega, fun k hk hkb => (HB3.out.block k (by omega)).trans (HO2.out.block k hkb)⟩
  have HTb : Hid (C.Tab w4) := fun j hj => by
    have hpos := HT.out.pos
    rw [World.cell?_of_block (w := w1) (a := ⟨0, j, none⟩) (HB4.out.block 0 hpos (by omega))]; exact HT.out j hj
  have HF := hide (frame_any w4 b (ltick L) _ 0 ⟨#[]⟩ HL3.out HTb.out)
  rw [HK.out.2.2.2.2] at HF
  clear c7 HR HP
  go_wp2_with fail
  refine HF.out.mono ?_
  rintro e w5 ⟨sq, m, hm, rfl, hmi, hb5⟩
  obtain ⟨i0, hi, hz0, hz1, hz2⟩ := info_parts Tryz.infoSl
  have HM := hide hm
  have HMi := hide hmi
  have HB5 := hide hb5
  have HL5 := hide (HL3.out.below hb5)
  have HBt5 : Hid (C.But b w1 w5) := HB4.out.trans (C.but_of hb5 b)
  have hs5 : w1.heap.size ≤ w5.heap.size := HBt5.out.size
  have hsm : Hid (∀ x ∈ encB (lfr L 0 ⟨#[]⟩), x < 256) := encB_small (by intro x hx; simp [lfr, nums] at hx)
  clear hm hmi hb5 c9 c13 c14' t0 HF
  go_wp2_with (at_builtin; refine wpList_append_lies _ rfl (.tmp 57) (.tmp 61) 44 rfl w5.heap.size 31 i0 (.slice none 0 0) 1 24 Tryz.underlying44 hi hz0 hz1 hz2 rfl (by omega) (.slice none 0 0) 0 [] rfl ⟨rfl, Or.inl ⟨rfl, rfl⟩⟩ ⟨w5.heap.size, 0, none⟩ 1 1 [.slice sq m m] rfl rfl (World.news_of_block (heap_alloc_new w5 (.cells #[.slice sq m m] 31))) (by simp [Value.oneCell']) (by omega) (by unfold maxLen; omega) (by omega) (by simp) _ rfl ?_; intro g' cap' w6 hown hgrow hat hltg; have hb6 : Below w5.heap.size w5 w6 := ((Below.refl _ _).alloc (Nat.le_refl _) _).grown hgrow (by simp) (fun k e => by simp [Value.ownBlock] at e); have HO6 := hide hown; have HB6 := hide hb6; obtain ⟨-, -, -, -, -, -, -, -, -, c9, -, -, -, c13, -, cf⟩ := blk15 (HL5.out.below hb6); have hlt6 : b < w6.heap.size := Nat.lt_of_lt_of_le (by omega) hb6.size; clear hown hgrow hat hb6)
  go_ret
  obtain ⟨g, e1, e2, e3, e4⟩ := own_cell0 HO6.out
  cases e1
  have hne : g' ≠ b := by omega
  have hk : ∀ k, k ≠ b → ((w6.setCell ⟨b, 9, none⟩ (.bool false)).setCell ⟨b, 13, none⟩ (.bool false)).heap[k]? = w6.heap[k]? := fun k hk =>
    (Below.heap_setCell _ _ _ _ (by simpa using hk)).trans (Below.heap_setCell _ _ _ _ (by simpa using hk))
  have hbt : C.But b w1 w6 := HBt5.out.trans (C.but_of HB6.out b)
  refine ⟨g', cap', sq, m, rfl, ?_, HM.out, ?_, ?_⟩
  · rw [World.cell?_of_block (w := w6) (a := ⟨g', 0, none⟩) (hk g' hne)]; exact e2
  · refine Mine.c_bytes HMi.out hsm.out (fun k h1 h2 => ?_)
    have hb4 := HL3.out
    have : b < w4.heap.size := C.lt_of_block hb4
    exact (hk k (by omega)).trans (HB6.out.block k h2)
  · exact (hbt.setCell (p := ⟨b, 9, none⟩) (Or.inl rfl) _).setCell (p := ⟨b, 13, none⟩) (Or.inl rfl) _
def fr3 : Fr := ⟨0, 2, 3, 0, 0, 0, []⟩
theorem fr3_fit : fr3.fit := by unfold Fr.fit fr3; simp
theorem fr3_small : fr3.small := by intro x hx; simp [fr3] at hx
set_option maxRecDepth 100000 in
set_option maxHeartbeats 2000000 in
theorem begun_any (w : World) (hT : C.Tab w) : Calls Tryz.prog 5 #[] w fun e w' => e = .returned (.bool true) ∧ Below w.heap.size w w' := by
  have hpos := hT.pos
  have HN := hide (new_any w 0 2 3 2 4)
  have HT := hide hT
  clear hT
  go_enter Tryz.func5, Tryz.ntmps5
  go_wp2_with fail
  refine HN.out.mono ?_
  rintro e w1 ⟨rfl, hl1, hb1⟩
  have HK := hide (known_any w1 _ _ _ hl1)
  have HL := hide (len_any w1 _ _ _ _ _ hl1)
  have HL1 := hide hl1
  have HB1 := hide hb1
  clear hl1 hb1
  go_wp2_with fail
  refine HK.out.mono ?_
  rintro e w2 ⟨rfl, rfl⟩
  go_wp2_with fail
  refine HL.out.mono ?_
  rintro e w3 ⟨rfl, rfl⟩
  have HTk := hide (tick_word w3 w.heap.size _ 0 HL1.out rfl rfl (by simp [Lk.new]) ⟨by simp [Lk.new], by simp [Lk.new], by intro m; simp [Lk.new]; omega⟩ rfl rfl (HT.out.below HB1.out hpos) hpos)
  have hef : lfr (Lk.new 0 2 3 2 4) 0 ⟨#[]⟩ = fr3 := rfl
  rw [hef] at HTk
  have hee : encB fr3 = fr3.bytes := by unfold encB; rw [if_pos fr3_fit]
  rw [hee] at HTk
  have HDc := hide (dec_bytes fr3_fit fr3_small)
  have HLn : Hid (fr3.bytes.length ≤ 2088) := by show _ ≤ _; rw [← hee]; exact encB_len fr3
  clear hef hee HK HL
  generalize fr3.bytes = FB at *
  go_wp2_with fail
  refine HTk.out.mono ?_
  rintro e w4 ⟨g, cp, sq, m, rfl, hc, hm, hby, hbt⟩
  have HB4 : Hid (Below w.heap.size w w4) := hbt.below HB1.out (Nat.le_refl _) HB1.out.size
  have HD := hide (dec_any w4 sq m m FB hm.symm (Nat.le_refl _) (by have := HLn.out; omega) (Bytes.of_c hby) (HT.out.below HB4.out hpos))
  clear HTk hm hby hbt
  go_wp2_with fail
  refine HD.out.mono ?_
  rintro e w5 (⟨f, sq2, hd, rfl, hmi, hb5⟩ | ⟨hd, _, _⟩)
  · rw [HDc.out] at hd
    cases hd
    have hv : frV fr3 sq2 fr3.body.length = .agg #[.int .i64 0, .int .i64 2, .int .u64 3, .int .u64 0, .int .u64 0, .int .u64 0, .slice sq2 0 0] := rfl
    rw [hv]
    have HB5 := hide (HB4.out.trans (hb5.mono HB4.out.size))
    have HQ : ∀ w6, Hid (Calls Tryz.prog 18 #[.agg #[.int .i64 0, .int .i64 2, .int .u64 3, .int .u64 0, .int .u64 0, .int .u64 0, .slice sq2 0 0], .agg #[.int .i64 0, .int .i64 2, .int .u64 3, .int .u64 0, .int .u64 0, .int .u64 0, .slice none 0 0]] w6 fun e w' => ∃ r, e = .returned (.bool r) ∧ (r = true ↔ fr3 = fr3) ∧ Below w6.heap.size w6 w') := fun w6 =>
      hide (eqfr_any w6 fr3 fr3 sq2 none 0 0 ⟨fr3_small, Or.inl rfl⟩ ⟨fr3_small, Or.inl rfl⟩ (by simp [fr3]) (by simp [fr3]))
    clear hmi hb5 hv HD hc
    go_wp2_with fail
    refine (HQ _).out.mono ?_
    rintro e w7 ⟨r, rfl, hr, hb7⟩
    obtain rfl : r = true := hr.2 (by first | trivial | rfl)
    have HB7 : Hid (Below w.heap.size w w7) := (HB5.out.alloc HB5.out.size _).trans (hb7.mono (by have := HB5.out.size; simp; omega))
    clear hr hb7
    go_wp2
    go_ret
    exact ⟨rfl, HB7.out⟩
  · rw [HDc.out] at hd; cases hd
end Go.Proofs.YtjcdnclfakmbpaaGreatDoor
namespace Go.Proofs.YtjcdnclfakmbpaaGreatDoor
open Go.RowKit
structure Fe where
  f : Fr
  p : Option Addr
  c : Nat
structure FeOk (w : World) (e : Fe) : Prop where
  by_ : Bytes w e.p e.f.body
  len : e.f.body.length ≤ 140737488351232
def feC (e : Fe) : List Value := [.int .i64 e.f.fr, .int .i64 e.f.tt, .int .u64 (e.f.mine : Int), .int .u64 (e.f.yours : Int), .int .u64 (e.f.seq : Int), .int .u64 (e.f.ack : Int), .slice e.p e.f.body.length e.c]
theorem owns_bytes {w : World} {B : Nat} {a : Option Addr} {n c : Nat} {xs : List Nat} (h : w.ownsRow B 5 1 (.slice a n c) n (vals xs)) (hs : ∀ x ∈ xs, x < 256) : Bytes w a xs := by
  refine ⟨hs, ?_⟩
  have hl := h.1
  rw [vals_len, Nat.mul_one] at hl
  rcases h.2 with ⟨h1, h2⟩ | ⟨g, cap, cur, h1, h2, h3, h4, h5, h6, h7⟩
  · left; exact List.eq_nil_of_length_eq_zero (by omega)
  · cases h1
    refine Or.inr ⟨g, 0, rfl, C.lt_of_block h3, fun j hj => ?_⟩
    have e : cur.toList[j]? = some (.int .u8 ((xs.getD j 0 : Nat) : Int)) := by
      have := congrArg (fun l : List Value => l[j]?) h7
      simp only [List.getElem?_take] at this
      rw [if_pos (by omega)] at this
      rw [this]
      simp [vals, List.getD, List.getElem?_eq_getElem hj]
    simp only [World.cell?, h3, Nat.zero_add]
    simpa using e
end Go.Proofs.YtjcdnclfakmbpaaGreatDoor
