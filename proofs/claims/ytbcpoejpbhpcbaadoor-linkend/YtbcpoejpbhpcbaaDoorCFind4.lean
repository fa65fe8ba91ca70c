import Derived.Test.YtbcpoejpbhpcbaaDoorCFind2
namespace Go.Proofs.YtbcpoejpbhpcbaaDoor.C
open Go.RowKit

theorem bytes_any (w : World) (sp : Option Addr) (len cap most : Nat) (xs : List Nat) (hl : xs.length = len) (hB : Bytes w sp xs) (hcap : len ≤ cap) (hc : cap ≤ 140737488355328) (hm : most < 18446744073709551616) :
    Calls Tryd.prog 69 #[.slice sp len cap, .int .u64 most] w fun e w' => Found w w' xs (pBytes most xs) e := by
  by_cases hbad : (pVar most xs 0 0).fault ≠ 0
  · exact bytes_bad w sp len cap most xs hl hB hcap hc hbad
  have hok : (pVar most xs 0 0).fault = 0 := by omega
  obtain ⟨h0, hsz, hnum, hlen0⟩ := pv_size most xs 0 0 hok
  rcases hB.lie with h' | ⟨g, o, rfl, hg, hcc⟩
  · subst h'; simp at hsz; omega
  have HV : ∀ w', Bytes w' (some ⟨g, o, none⟩) xs → Calls Tryd.prog 68 #[.slice (some ⟨g, o, none⟩) len cap, .int .u64 most] w' fun e w'' => Found w' w'' xs (pVar most xs 0 0) e := fun w' h => var_any w' _ len cap most xs hl h (by omega)
  have P1 := pb_short most xs hok
  have P2 := pb_ok most xs hok
  generalize pVar most xs 0 0 = it at *
  obtain ⟨num, off, ilen, size, fault⟩ := it
  simp only at hok h0 hsz hnum hlen0 P1 P2
  subst hok hlen0
  rw [hl] at P1 P2
  by_cases he : size = cap
  · obtain rfl : len = cap := by omega
    subst he
    by_cases hn : 0 < num
    · refine (bytes_edge_bad w g o size most num off xs hB hc (by omega) hn HV).mono ?_
      rintro e w' ⟨rfl, hb⟩
      rw [P1 (by omega)]
      exact found_no _ _ _ 10 hb
    · obtain rfl : num = 0 := by omega
      refine (bytes_edge_ok w g o size most off xs hB hc HV).mono ?_
      rintro e w' ⟨rfl, hb⟩
      rw [P2 (by omega)]
      exact ⟨some ⟨g, o, none⟩, 0, by simp, by simpa using bytes_none _ _, by simp, by omega, hb⟩
  · refine (bytes_go w g o len cap most num size off xs hB hcap hc (by omega) (by omega) he HV).mono ?_
    rintro e w' ⟨rfl, hb⟩
    by_cases hraw : len - size < num
    · rw [if_pos hraw, P1 hraw]
      exact found_no _ _ _ 10 hb
    · rw [if_neg hraw, P2 hraw]
      exact ⟨some ⟨g, o + size, none⟩, cap - size, by simp, by simpa using ((hB.below hb).drop size).take num, by simp; omega, by omega, hb⟩

set_option maxRecDepth 100000 in
set_option maxHeartbeats 400000 in
theorem width_any (w : World) (k : Int) : Calls Tryd.prog 72 #[.int .i64 k] w fun e w' => e = .returned (.int .i64 (width k : Nat)) ∧ w' = w := by
  by_cases h0 : (k == 0) = true
  · have : width k = 1 := by simp at h0; simp [width, h0]
    rw [this]
    go_enter Tryd.func72, Tryd.ntmps72
    go_wp2
    go_ret
    exact ⟨rfl, rfl⟩
  · simp only [Bool.not_eq_true] at h0
    by_cases h1 : (k == 1) = true
    · have : width k = 4 := by simp at h1; simp [width, h1]
      rw [this]
      go_enter Tryd.func72, Tryd.ntmps72
      go_wp2
      go_ret
      exact ⟨rfl, rfl⟩
    · simp only [Bool.not_eq_true] at h1
      have : width k = 8 := by simp at h0 h1; simp [width, h0, h1]
      rw [this]
      go_enter Tryd.func72, Tryd.ntmps72
      go_wp2
      go_ret
      exact ⟨rfl, rfl⟩
theorem width_le (k : Int) : width k ≤ 8 := by unfold width; split <;> (try split) <;> omega
theorem width_pos (k : Int) : 0 < width k := by unfold width; split <;> (try split) <;> omega

end Go.Proofs.YtbcpoejpbhpcbaaDoor.C
namespace Go.Proofs.YtbcpoejpbhpcbaaDoor.C
open Go.RowKit

/-- A block of an item's three cells holds no bytes. -/
theorem not_bytes {w : World} {g b o : Nat} {x : Nat} {x1 x3 : Int} {a : Option Addr} {n c : Nat} {t : TypeId} (hb : w.heap[b]? = some (.cells #[.int .u64 x1, .slice a n c, .int .i64 x3] t (0, 0))) (h : w.cell? ⟨g, o, none⟩ = some (.int .u8 x)) : g ≠ b := by
  rintro rfl
  simp only [World.cell?, hb] at h
  match o, h with
  | 0, h => simp at h
  | 1, h => simp at h
  | 2, h => simp at h
  | n + 3, h => simp at h

/-- Bytes are as they were where only blocks in which none of them lies have turned. -/
theorem Bytes.kept {w w' : World} {sp : Option Addr} {xs : List Nat} (h : Bytes w sp xs) (b : Nat) (hk : ∀ k, k ≠ b → k < w.heap.size → w'.heap[k]? = w.heap[k]?) (hs : w.heap.size ≤ w'.heap.size) (hn : ∀ g o x, w.cell? ⟨g, o, none⟩ = some (.int .u8 (x : Nat)) → g ≠ b) : Bytes w' sp xs := by
  refine ⟨h.small, ?_⟩
  rcases h.lie with h0 | ⟨g, o, e, hg, hc⟩
  · exact Or.inl h0
  · by_cases h0 : xs = []
    · exact Or.inl h0
    · have hpos : 0 < xs.length := List.length_pos_iff.2 h0
      have hgb := hn g _ _ (hc 0 hpos)
      refine Or.inr ⟨g, o, e, Nat.lt_of_lt_of_le hg hs, fun j hj => ?_⟩
      rw [World.cell?_of_block (w := w) (hk g hgb hg)]; exact hc j hj

theorem Bytes.set3 {w : World} {sp : Option Addr} {xs : List Nat} (h : Bytes w sp xs) {b : Nat} {x1 x3 : Int} {a : Option Addr} {n c : Nat} {t : TypeId} (hb : w.heap[b]? = some (.cells #[.int .u64 x1, .slice a n c, .int .i64 x3] t (0, 0))) (y1 y2 y3 : Value) :
    Bytes (((w.setCell ⟨b, 0, none⟩ y1).setCell ⟨b, 1, none⟩ y2).setCell ⟨b, 2, none⟩ y3) sp xs :=
  h.kept b (fun k hk _ => by rw [Below.heap_setCell _ _ _ _ hk, Below.heap_setCell _ _ _ _ hk, Below.heap_setCell _ _ _ _ hk]) (by simp [World.setCell]) (fun _ _ _ => not_bytes hb)

set_option maxRecDepth 100000 in
set_option maxHeartbeats 400000 in
theorem find_var (w : World) (sp : Option Addr) (len cap bound : Nat) (xs : List Nat) (hl : xs.length = len) (hB : Bytes w sp xs) (hcap : len ≤ cap) (hc : cap ≤ 140737488355328) :
    Calls Tryd.prog 60 #[.slice sp len cap, .int .i64 3, .int .u64 bound] w fun e w' => Found w w' xs (pVar bound xs 0 0) e := by
  have HV : Hid (∀ w', Bytes w' sp xs → Calls Tryd.prog 68 #[.slice sp len cap, .int .u64 bound] w' fun e w'' => Found w' w'' xs (pVar bound xs 0 0) e) := fun w' h => var_any w' _ len cap bound xs hl h (by omega)
  generalize pVar bound xs 0 0 = it at *
  have HB : Hid (Bytes w sp xs) := hB
  clear hB hl
  go_enter Tryd.func60, Tryd.ntmps60
  go_wp2_with fail
  refine (HV.out _ (HB.out.below ((Below.refl _ _).alloc (Nat.le_refl _) _))).mono ?_
  rintro e w1 ⟨bp, bc, rfl, HBy, hbc, hbc2, hbel⟩
  have HBy' : Hid (Bytes w1 bp _) := HBy
  have HQ1 : Hid (w1.heap[w.heap.size]? = _) := (hbel.block w.heap.size (by simp)).trans (heap_alloc_new _ _)
  have HA : Hid (Below w.heap.size w w1) := ((Below.refl _ _).alloc (Nat.le_refl _) _).trans (hbel.mono (by simp))
  obtain ⟨q0, q1, q2, qf⟩ := blk3 HQ1.out
  clear hbel HBy
  go_wp2
  refine bodyPost_ret (v := .tuple #[.agg #[.int .u64 (it.num : Int), .slice bp it.len bc, .int .i64 (it.size : Int)], .int .i64 (it.fault : Int)]) (by simp [results, Tryd.results60, go_sem, q0, q1, q2]) rfl ⟨bp, bc, rfl, HBy'.out.set3 HQ1.out _ _ _, hbc, hbc2, ?_⟩
  exact below_set3 HA.out w.heap.size (Nat.le_refl _) _ _ _

set_option maxRecDepth 100000 in
set_option maxHeartbeats 400000 in
theorem find_bytes (w : World) (sp : Option Addr) (len cap bound : Nat) (xs : List Nat) (hl : xs.length = len) (hB : Bytes w sp xs) (hcap : len ≤ cap) (hc : cap ≤ 140737488355328) (hm : bound < 18446744073709551616) :
    Calls Tryd.prog 60 #[.slice sp len cap, .int .i64 4, .int .u64 bound] w fun e w' => Found w w' xs (pBytes bound xs) e := by
  have HV : Hid (∀ w', Bytes w' sp xs → Calls Tryd.prog 69 #[.slice sp len cap, .int .u64 bound] w' fun e w'' => Found w' w'' xs (pBytes bound xs) e) := fun w' h => bytes_any w' _ len cap bound xs hl h hcap hc hm
  generalize pBytes bound xs = it at *
  have HB : Hid (Bytes w sp xs) := hB
  clear hB hl
  go_enter Tryd.func60, Tryd.ntmps60
  go_wp2_with fail
  refine (HV.out _ (HB.out.below ((Below.refl _ _).alloc (Nat.le_refl _) _))).mono ?_
  rintro e w1 ⟨bp, bc, rfl, HBy, hbc, hbc2, hbel⟩
  have HBy' : Hid (Bytes w1 bp _) := HBy
  have HQ1 : Hid (w1.heap[w.heap.size]? = _) := (hbel.block w.heap.size (by simp)).trans (heap_alloc_new _ _)
  have HA : Hid (Below w.heap.size w w1) := ((Below.refl _ _).alloc (Nat.le_refl _) _).trans (hbel.mono (by simp))
  obtain ⟨q0, q1, q2, qf⟩ := blk3 HQ1.out
  clear hbel HBy
  go_wp2
  refine bodyPost_ret (v := .tuple #[.agg #[.int .u64 (it.num : Int), .slice bp it.len bc, .int .i64 (it.size : Int)], .int .i64 (it.fault : Int)]) (by simp [results, Tryd.results60, go_sem, q0, q1, q2]) rfl ⟨bp, bc, rfl, HBy'.out.set3 HQ1.out _ _ _, hbc, hbc2, ?_⟩
  exact below_set3 HA.out w.heap.size (Nat.le_refl _) _ _ _

set_option maxRecDepth 100000 in
set_option maxHeartbeats 400000 in
theorem find_raw (w : World) (sp : Option Addr) (len cap bound : Nat) (xs : List Nat) (hl : xs.length = len) (hB : Bytes w sp xs) (hcap : len ≤ cap) (hc : cap ≤ 140737488355328) (hm : bound < 18446744073709551616) :
    Calls Tryd.prog 60 #[.slice sp len cap, .int .i64 5, .int .u64 bound] w fun e w' => Found w w' xs (pRaw bound xs) e := by
  have HV : Hid (∀ w', Bytes w' sp xs → Calls Tryd.prog 70 #[.slice sp len cap, .int .u64 bound] w' fun e w'' => Found w' w'' xs (pRaw bound xs) e) := fun w' h => raw_any w' _ len cap bound xs hl h hcap hc hm
  generalize pRaw bound xs = it at *
  have HB : Hid (Bytes w sp xs) := hB
  clear hB hl
  go_enter Tryd.func60, Tryd.ntmps60
  go_wp2_with fail
  refine (HV.out _ (HB.out.below ((Below.refl _ _).alloc (Nat.le_refl _) _))).mono ?_
  rintro e w1 ⟨bp, bc, rfl, HBy, hbc, hbc2, hbel⟩
  have HBy' : Hid (Bytes w1 bp _) := HBy
  have HQ1 : Hid (w1.heap[w.heap.size]? = _) := (hbel.block w.heap.size (by simp)).trans (heap_alloc_new _ _)
  have HA : Hid (Below w.heap.size w w1) := ((Below.refl _ _).alloc (Nat.le_refl _) _).trans (hbel.mono (by simp))
  obtain ⟨q0, q1, q2, qf⟩ := blk3 HQ1.out
  clear hbel HBy
  go_wp2
  refine bodyPost_ret (v := .tuple #[.agg #[.int .u64 (it.num : Int), .slice bp it.len bc, .int .i64 (it.size : Int)], .int .i64 (it.fault : Int)]) (by simp [results, Tryd.results60, go_sem, q0, q1, q2]) rfl ⟨bp, bc, rfl, HBy'.out.set3 HQ1.out _ _ _, hbc, hbc2, ?_⟩
  exact below_set3 HA.out w.heap.size (Nat.le_refl _) _ _ _

set_option maxRecDepth 100000 in
set_option maxHeartbeats 400000 in
theorem find_fixed (w : World) (sp : Option Addr) (len cap bound : Nat) (k : Int) (xs : List Nat) (hl : xs.length = len) (hB : Bytes w sp xs) (hcap : len ≤ cap) (hc : cap ≤ 140737488355328) (h3 : (k == 3) = false) (h4 : (k == 4) = false) (h5 : (k == 5) = false) :
    Calls Tryd.prog 60 #[.slice sp len cap, .int .i64 k, .int .u64 bound] w fun e w' => Found w w' xs (pFixed (width k) xs) e := by
  have HV : Hid (∀ w', Bytes w' sp xs → Calls Tryd.prog 71 #[.slice sp len cap, .int .i64 (width k : Nat)] w' fun e w'' => Found w' w'' xs (pFixed (width k) xs) e) := fun w' h => fixed_any w' _ len cap (width k) xs hl h (width_le k) (width_pos k) (by omega)
  generalize pFixed (width k) xs = it at *
  have HB : Hid (Bytes w sp xs) := hB
  clear hB hl
  go_enter Tryd.func60, Tryd.ntmps60
  go_wp2_with fail
  refine (width_any _ _).mono ?_
  rintro e w0 ⟨rfl, rfl⟩
  go_wp2_with fail
  refine (HV.out _ (HB.out.below ((Below.refl _ _).alloc (Nat.le_refl _) _))).mono ?_
  rintro e w1 ⟨bp, bc, rfl, HBy, hbc, hbc2, hbel⟩
  have HBy' : Hid (Bytes w1 bp _) := HBy
  have HQ1 : Hid (w1.heap[w.heap.size]? = _) := (hbel.block w.heap.size (by simp)).trans (heap_alloc_new _ _)
  have HA : Hid (Below w.heap.size w w1) := ((Below.refl _ _).alloc (Nat.le_refl _) _).trans (hbel.mono (by simp))
  obtain ⟨q0, q1, q2, qf⟩ := blk3 HQ1.out
  clear hbel HBy
  go_wp2
  refine bodyPost_ret (v := .tuple #[.agg #[.int .u64 (it.num : Int), .slice bp it.len bc, .int .i64 (it.size : Int)], .int .i64 (it.fault : Int)]) (by simp [results, Tryd.results60, go_sem, q0, q1, q2]) rfl ⟨bp, bc, rfl, HBy'.out.set3 HQ1.out _ _ _, hbc, hbc2, ?_⟩
  exact below_set3 HA.out w.heap.size (Nat.le_refl _) _ _ _

theorem find_any (w : World) (sp : Option Addr) (len cap bound : Nat) (k : Int) (xs : List Nat) (hl : xs.length = len) (hB : Bytes w sp xs) (hcap : len ≤ cap) (hc : cap ≤ 140737488355328) (hm : bound < 18446744073709551616) :
    Calls Tryd.prog 60 #[.slice sp len cap, .int .i64 k, .int .u64 bound] w fun e w' => Found w w' xs (pFind k bound xs) e := by
  unfold pFind
  by_cases h3 : k = 3
  · subst h3; rw [if_pos rfl]; exact find_var w sp len cap bound xs hl hB hcap hc
  · rw [if_neg h3]
    by_cases h4 : k = 4
    · subst h4; rw [if_pos rfl]; exact find_bytes w sp len cap bound xs hl hB hcap hc hm
    · rw [if_neg h4]
      by_cases h5 : k = 5
      · subst h5; rw [if_pos rfl]; exact find_raw w sp len cap bound xs hl hB hcap hc hm
      · rw [if_neg h5]
        exact find_fixed w sp len cap bound k xs hl hB hcap hc (by simp [h3]) (by simp [h4]) (by simp [h5])

end Go.Proofs.YtbcpoejpbhpcbaaDoor.C
