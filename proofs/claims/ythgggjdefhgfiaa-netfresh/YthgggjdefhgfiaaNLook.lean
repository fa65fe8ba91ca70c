import Derived.Test.YthgggjdefhgfiaaNOps
namespace Go.Proofs.Ythgggjdefhgfiaa
open Go.RowKit

/-- The bytes of a string. -/
def nums (s : ByteArray) : List Nat := s.data.toList.map (·.toNat)
theorem nums_len (s : ByteArray) : (nums s).length = s.size := by simp [nums]
theorem nums_small (s : ByteArray) : ∀ x ∈ nums s, x < 256 := by
  intro x hx
  simp only [nums, List.mem_map] at hx
  obtain ⟨y, _, rfl⟩ := hx
  exact y.toNat_lt
/-- BYTES THAT WERE TOLD: new memory, marked behind its end. -/
structure Told (w : World) (g c : Nat) (s : ByteArray) : Prop where
  blk : ∃ xs : List Nat, w.heap[g]? = some (.cells (vals xs).toArray 5 (c, c + 1)) ∧ xs.length = c ∧ xs.take s.size = nums s ∧ ∀ x ∈ xs, x < 256
  le : s.size ≤ c
  max : s.size ≤ maxLen → c ≤ maxLen
theorem Told.bytes {w : World} {g c : Nat} {s : ByteArray} (h : Told w g c s) : Bytes w (some ⟨g, 0, none⟩) (nums s) := by
  obtain ⟨⟨xs, h1, h2, h3, _⟩, h4, _⟩ := h
  refine ⟨nums_small s, Or.inr ⟨g, 0, rfl, lt_of_block h1, fun j hj => ?_⟩⟩
  rw [nums_len] at hj
  have hx : xs[j]? = (nums s)[j]? := by rw [← h3, List.getElem?_take, if_pos hj]
  simp only [World.cell?, h1, Nat.zero_add, vals]
  simp only [List.getElem?_toArray, List.getElem?_map, hx, List.getD]
  rw [List.getElem?_eq_getElem (by rw [nums_len]; exact hj)]
  rfl
theorem Told.same {w w' : World} {g c : Nat} {s : ByteArray} (h : Told w g c s) (e : w'.heap[g]? = w.heap[g]?) : Told w' g c s := by
  obtain ⟨⟨xs, h1, r⟩, h4, h5⟩ := h
  exact ⟨⟨xs, e.trans h1, r⟩, h4, h5⟩
theorem Told.lt {w : World} {g c : Nat} {s : ByteArray} (h : Told w g c s) : g < w.heap.size := by
  obtain ⟨⟨xs, h1, r⟩, _⟩ := h
  exact lt_of_block h1
theorem told_new (w : World) (s : ByteArray) : Told (Lib.bytesWorld w 5 s) w.heap.size (grownCap w s.size 0 5) s := by
  have hge := grownCap_ge w s.size 0 5
  have hmx := grownCap_le_maxLen w s.size 0 5
  refine ⟨⟨nums s ++ List.replicate (grownCap w s.size 0 5 - s.size) 0, ?_, ?_, ?_, ?_⟩, hge, hmx⟩
  · rw [Lib.bytesWorld_at_new]
    have e : Lib.bytesCells w 5 s = (vals (nums s ++ List.replicate (grownCap w s.size 0 5 - s.size) 0)).toArray := by
      apply Array.ext'
      simp [Lib.bytesCells, vals, nums, Function.comp_def]
    rw [e]
    simp [vals, nums_len]
    omega
  · simp [nums_len]; omega
  · rw [List.take_append_of_le_length (by rw [nums_len]; omega), List.take_of_length_le (by rw [nums_len]; omega)]
  · intro x hx
    rcases List.mem_append.1 hx with h | h
    · exact nums_small s x h
    · rw [List.mem_replicate] at h; omega

theorem Try.sizeFl : (Try.prog.info? 75).map (·.size) = some 2 := by kernel_rfl
theorem res_1 {fn : Func} {p : Tmp} {ty : TypeId} (h : fn.results = #[.cell p ty]) (tmps : Array Value) (w : World) (g : Nat) (t : TypeId) (cs : Array Value) (fr : Nat × Nat) (fs : Array Field)
    (hp : tmps.getD p undef = .pointer (some ⟨g, 0, none⟩)) (hg : w.heap[g]? = some (.cells cs t fr))
    (hu : Try.prog.underlying ty = some (.struct fs)) (hi : (Try.prog.info? ty).map (·.size) = some cs.size) :
    (results fn tmps).run Try.prog w = .ok (.agg cs) w := by
  have e : (results fn tmps).run Try.prog w = ((asAddr (tmps.getD p undef)).run Try.prog w).andThen fun a w₁ => (loadVar ty a).run Try.prog w₁ := by
    simp only [results, h]
    simp [Sem.run_bind, Result.andThen]
  rw [e, hp]
  simp [asAddr, run_loadVar_row w g t ty cs fr (.struct fs) hg hu rfl hi]
theorem res_ct {fn : Func} {p u : Tmp} {ty : TypeId} (h : fn.results = #[.cell p ty, .tmp u]) (tmps : Array Value) (w : World) (g : Nat) (t : TypeId) (cs : Array Value) (fr : Nat × Nat) (fs : Array Field)
    (hp : tmps.getD p undef = .pointer (some ⟨g, 0, none⟩)) (hg : w.heap[g]? = some (.cells cs t fr))
    (hu : Try.prog.underlying ty = some (.struct fs)) (hi : (Try.prog.info? ty).map (·.size) = some cs.size) :
    (results fn tmps).run Try.prog w = .ok (.tuple #[.agg cs, tmps.getD u undef]) w := by
  rw [results_cell_tmp h, hp]
  simp [asAddr, run_loadVar_row w g t ty cs fr (.struct fs) hg hu rfl hi]
theorem store2 {w : World} {b : Nat} {x y x' y' : Value} {t : TypeId} (h : w.heap[b]? = some (.cells #[x, y] t (0, 0))) : ((w.setCell ⟨b, 0, none⟩ x').setCell ⟨b, 1, none⟩ y').heap[b]? = some (.cells #[x', y'] t (0, 0)) := by
  rw [block_set (block_set h x')]; rfl

def FlPost (w : World) (m : Ms) (e : Ending) (w' : World) : Prop := ∃ g c, e = .returned (.agg #[.int .i64 m.to, .slice (some ⟨g, 0, none⟩) m.b.size c]) ∧ w.heap.size ≤ g ∧ Told w' g c m.b ∧ Below w.heap.size w w'
set_option maxRecDepth 100000 in
set_option maxHeartbeats 1000000 in
theorem flight_any (w : World) (m : Ms) : Calls Try.prog 45 #[.agg #[.int .i64 m.to, .string m.b]] w (FlPost w m) := by
  obtain ⟨to, b⟩ := m
  simp only
  obtain ⟨w2, hw2⟩ : ∃ w2, (w.alloc (.cells #[.int .i64 to, .string b] 101)).alloc (.cells #[.int .i64 0, .slice none 0 0] 75) = w2 := ⟨_, rfl⟩
  have hs2 : w2.heap.size = w.heap.size + 1 + 1 := by rw [← hw2]; simp
  have hr2 : w2.heap[w.heap.size + 1]? = some (.cells #[.int .i64 0, .slice none 0 0] 75 (0, 0)) := by
    rw [← hw2]
    have := heap_alloc_new (w.alloc (.cells #[.int .i64 to, .string b] 101)) (.cells #[.int .i64 0, .slice none 0 0] 75)
    rwa [show (w.alloc (.cells #[.int .i64 to, .string b] 101)).heap.size = w.heap.size + 1 by simp] at this
  have hb2 : Below w.heap.size w w2 := by rw [← hw2]; exact ((Below.refl _ _).alloc (Nat.le_refl _) _).alloc (by simp) _
  have hcv := Lib.run_convert_string_bytes (P := Try.prog) w2 _ _ 5 b Try.underlying9 Try.underlying59 Try.underlying5
  have hr3 := (Lib.bytesWorld_at_old w2 5 b (w.heap.size + 1) (by omega)).trans hr2
  have ht3 := told_new w2 b
  have hb3 : Below w.heap.size w (Lib.bytesWorld w2 5 b) := by
    refine ⟨hb2.os, hb2.tape, hb2.output, ?_, fun j hj => ?_⟩
    · rw [Lib.bytesWorld_size]; have := hb2.size; omega
    · rw [Lib.bytesWorld_at_old _ _ _ _ (Nat.lt_of_lt_of_le hj hb2.size)]; exact hb2.block j hj
  obtain ⟨cp, hcp⟩ : ∃ cp, grownCap w2 b.size 0 5 = cp := ⟨_, rfl⟩
  rw [hcp, hs2] at ht3
  rw [hcp, hs2] at hcv
  clear hcp hr2 hb2 hs2
  generalize Lib.bytesWorld w2 5 b = w3 at *
  rw [← hw2] at hcv
  clear hw2 w2
  have HT := hide ht3
  have HB := hide hb3
  have HR := hide hr3
  obtain ⟨z0, z1⟩ := blk2 hr3
  have zf : ∀ j, w3.frozen? ⟨w.heap.size + 1, j, none⟩ = false := fun j => by simp [World.frozen?, hr3]
  have hlt3 := lt_of_block hr3
  clear ht3 hb3 hr3
  go_enter Try.func45, Try.ntmps45
  go_wp2
  have hb : ∀ x y, Below w.heap.size w ((w3.setCell ⟨w.heap.size + 1, 0, none⟩ x).setCell ⟨w.heap.size + 1, 1, none⟩ y) := fun x y => (HB.out.setCell (p := ⟨w.heap.size + 1, 0, none⟩) (Nat.le_succ _) x).setCell (p := ⟨w.heap.size + 1, 1, none⟩) (Nat.le_succ _) y
  have hs : ∀ x y, ((w3.setCell ⟨w.heap.size + 1, 0, none⟩ x).setCell ⟨w.heap.size + 1, 1, none⟩ y).heap[w.heap.size + 1 + 1]? = w3.heap[w.heap.size + 1 + 1]? := fun x y => (Below.heap_setCell _ _ _ _ (by simp)).trans (Below.heap_setCell _ _ _ _ (by simp))
  exact bodyPost_ret (res_1 rfl _ _ _ _ _ _ _ rfl (store2 HR.out) Try.underlying75 Try.sizeFl) rfl ⟨_, _, rfl, by omega, HT.out.same (hs _ _), hb _ _⟩

/-- What lies of a row. -/
theorem nrow_cells {w : World} {B : Nat} {a : Option Addr} {n c : Nat} {l : List Ms} (h : w.ownsRow B 101 2 (.slice a n c) n (msv l)) {k : Nat} {m : Ms} (hm : l[k]? = some m) : ∃ g, a = some ⟨g, 0, none⟩ ∧ n ≤ c ∧ k < n ∧ c ≤ maxLen ∧ w.cell? ⟨g, k * 2, none⟩ = some (.int .i64 m.to) ∧ w.cell? ⟨g, k * 2 + 1, none⟩ = some (.string m.b) ∧ g < w.heap.size ∧ ∃ cur, w.heap[g]? = some (.cells cur 101 (0, 0)) ∧ cur.size = c * 2 ∧ cur.toList.take (n * 2) = msv l := by
  have hk : k < l.length := (List.getElem?_eq_some_iff.1 hm).1
  have hl := h.1
  rw [msv_len] at hl
  rcases h.2 with ⟨h1, h2⟩ | ⟨g, cap, cur, h1, _, hg, h3, h4, h5, h6⟩
  · omega
  · cases h1
    obtain ⟨e0, e1⟩ := msv_at hm
    rw [← h6, List.getElem?_take, if_pos (by omega), Array.getElem?_toList] at e0 e1
    exact ⟨g, rfl, h3, by omega, h4, by simp only [World.cell?, hg]; exact e0, by simp only [World.cell?, hg]; exact e1, lt_of_block hg, cur, hg, h5, h6⟩

def LkPost (w : World) (N : Nt) (i : Int) (e : Ending) (w' : World) : Prop :=
  Below w.heap.size w w' ∧ ((N.has i = true ∧ ∃ m g c, N.row[i.toNat]? = some m ∧ e = .returned (.tuple #[.agg #[.int .i64 m.to, .slice (some ⟨g, 0, none⟩) m.b.size c], .bool true]) ∧ w.heap.size ≤ g ∧ Told w' g c m.b) ∨ (N.has i = false ∧ e = .returned (.tuple #[.agg #[.int .i64 0, .slice none 0 0], .bool false])))
theorem has_true {N : Nt} {i : Int} (h : N.has i = true) : ∃ (k : Nat) (m : Ms), i = (k : Int) ∧ k < N.row.length ∧ N.row[k]? = some m := by
  unfold Nt.has at h
  simp at h
  exact ⟨i.toNat, N.row[i.toNat]'(by omega), by omega, by omega, List.getElem?_eq_getElem _⟩
set_option maxRecDepth 100000 in
set_option maxHeartbeats 1000000 in
theorem Look_any (w : World) (K : Knd) (o nb : Nat) (N : Nt) (h : Nk w K o nb N) (i : Int) :
    Calls Try.prog 16 #[.pointer (some ⟨nb, 0, none⟩), .int .i64 i] w (LkPost w N i) := by
  have hw1 : Nk (w.alloc (.cells #[.int .i64 0, .slice none 0 0] 75)) (ext K w.heap.size (0, 0)) o nb N := h.kept (kp_below ((Below.refl _ _).alloc (Nat.le_refl _) _) (fun _ => False) _ _) (fun _ h => h)
  have hr1 : (w.alloc (.cells #[.int .i64 0, .slice none 0 0] 75)).heap[w.heap.size]? = some (.cells #[.int .i64 0, .slice none 0 0] 75 (0, 0)) := heap_alloc_new _ _
  have hb1 : Below w.heap.size w (w.alloc (.cells #[.int .i64 0, .slice none 0 0] 75)) := (Below.refl _ _).alloc (Nat.le_refl _) _
  have hH := has_any _ _ _ _ _ hw1 i
  have HH := hide hH
  have HB1 := hide hb1
  have HR1 := hide hr1
  by_cases hx : N.has i = true
  · obtain ⟨k, m, rfl, hk, hm⟩ := has_true hx
    rw [hx] at HH
    obtain ⟨rv, hw⟩ := hw1
    obtain ⟨a, c, hrv, _, _⟩ := hw.row.form
    subst hrv
    obtain ⟨g, rfl, c1, c2, c3, c4, c5, c6, _⟩ := nrow_cells hw.row.own hm
    have hblk := hw.blk
    unfold ncells at hblk
    obtain ⟨y0, y1, y2, yf⟩ := blk3 hblk
    have HF := hide (flight_any (w.alloc (.cells #[.int .i64 0, .slice none 0 0] 75)) m)
    have HX := hide hx
    have HM := hide hm
    have hkc : (k : Int) < (N.row.length : Int) := by omega
    generalize N.row.length = L at *
    clear hw hblk hm hx hH hb1 h hr1 hk
    go_enter Try.func16, Try.ntmps16
    go_wp2_with (first | (go_at_call 44; refine HH.out.mono ?_; rintro e w2 ⟨rfl, rfl⟩) | (go_at_call 45; refine HF.out.mono ?_; rintro e w2 ⟨g2, c2', rfl, hg2, ht2, hb2⟩; have HT2 := hide ht2; have HB2 := hide hb2; have hr2 := (hb2.block w.heap.size (by simp)).trans HR1.out; have HR2 := hide hr2; obtain ⟨z0, z1⟩ := blk2 hr2; have zf : ∀ j, w2.frozen? ⟨w.heap.size, j, none⟩ = false := (fun j => by simp [World.frozen?, hr2]); have hlt2 := lt_of_block hr2; clear ht2 hb2 hr2))
    simp only [World.size_alloc] at hg2
    have hb : ∀ x y, Below w.heap.size w ((w2.setCell ⟨w.heap.size, 0, none⟩ x).setCell ⟨w.heap.size, 1, none⟩ y) := fun x y => ((HB1.out.trans (HB2.out.mono (by simp))).setCell (p := ⟨w.heap.size, 0, none⟩) (Nat.le_refl _) x).setCell (p := ⟨w.heap.size, 1, none⟩) (Nat.le_refl _) y
    have hs : ∀ x y, ((w2.setCell ⟨w.heap.size, 0, none⟩ x).setCell ⟨w.heap.size, 1, none⟩ y).heap[g2]? = w2.heap[g2]? := fun x y => (Below.heap_setCell _ _ _ _ (by show g2 ≠ w.heap.size; omega)).trans (Below.heap_setCell _ _ _ _ (by show g2 ≠ w.heap.size; omega))
    exact bodyPost_ret (res_ct rfl _ _ _ _ _ _ _ rfl (store2 HR2.out) Try.underlying75 Try.sizeFl) rfl ⟨hb _ _, Or.inl ⟨HX.out, m, g2, c2', HM.out, rfl, by omega, HT2.out.same (hs _ _)⟩⟩
  · have hxf : N.has i = false := by simpa using hx
    rw [hxf] at HH
    have HX := hide hxf
    clear hxf hx hH hb1 hr1 h hw1
    go_enter Try.func16, Try.ntmps16
    go_wp2_with (go_at_call 44; refine HH.out.mono ?_; rintro e w2 ⟨rfl, rfl⟩)
    exact bodyPost_ret (res_ct rfl _ _ _ _ _ _ _ rfl HR1.out Try.underlying75 Try.sizeFl) rfl ⟨HB1.out, Or.inr ⟨HX.out, rfl⟩⟩
end Go.Proofs.Ythgggjdefhgfiaa
