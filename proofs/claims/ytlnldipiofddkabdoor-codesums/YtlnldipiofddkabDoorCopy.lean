import Derived.Test.YtlnldipiofddkabDoorMixed
import Derived.Test.YtlnldipiofddkabDoorPoly
import Derived.Deep.AppendLies
namespace Go.Proofs.YtlnldipiofddkabDoor
open Go.RowKit

/-- A list of bytes of the call's own. -/
structure Own (B : Nat) (w : World) (g cap : Nat) (xs : List Nat) : Prop where
  base : B ≤ g
  cap : xs.length ≤ cap
  small : ∀ x ∈ xs, x < 256
  row : ∃ C : Array Value, w.heap[g]? = some (.cells C 5 (0, 0)) ∧ ∀ j, j < xs.length → C[j]? = some (.int .u8 (xs.getD j 0 : Nat))

theorem Own.bytes {B : Nat} {w : World} {g cap : Nat} {xs : List Nat} (h : Own B w g cap xs) : Bytes w (some ⟨g, 0, none⟩) xs := by
  obtain ⟨C, hC, hc⟩ := h.row
  exact lie_row hC h.small hc
theorem Own.lt {B : Nat} {w : World} {g cap : Nat} {xs : List Nat} (h : Own B w g cap xs) : g < w.heap.size := by
  obtain ⟨C, hC, _⟩ := h.row
  exact lt_of_block hC
theorem Own.below {B B' : Nat} {w w' : World} {g cap : Nat} {xs : List Nat} (h : Own B w g cap xs) (hb : Below B' w w') (hg : g < B') : Own B w' g cap xs := by
  obtain ⟨C, hC, hc⟩ := h.row
  exact ⟨h.base, h.cap, h.small, C, (hb.block g hg).trans hC, hc⟩
theorem Own.mono {B B' : Nat} {w : World} {g cap : Nat} {xs : List Nat} (h : Own B w g cap xs) (hb : B' ≤ B) : Own B' w g cap xs := ⟨Nat.le_trans hb h.base, h.cap, h.small, h.row⟩
theorem Own.cell {B : Nat} {w : World} {g cap : Nat} {xs : List Nat} (h : Own B w g cap xs) (j : Nat) (hj : j < xs.length) : w.cell? ⟨g, j, none⟩ = some (.int .u8 (xs.getD j 0 : Nat)) ∧ w.frozen? ⟨g, j, none⟩ = false := by
  obtain ⟨C, hC, hc⟩ := h.row
  exact ⟨by simp only [World.cell?, hC]; exact hc j hj, by simp only [World.frozen?, hC]; simp⟩
theorem Own.set {B : Nat} {w : World} {g cap : Nat} {xs : List Nat} (h : Own B w g cap xs) (i y : Nat) (hy : y < 256) : Own B (w.setCell ⟨g, i, none⟩ (.int .u8 (y : Int))) g cap (xs.set i y) := by
  obtain ⟨C, hC, hc⟩ := h.row
  refine ⟨h.base, by simpa using h.cap, ?_, _, heap_setCell_same _ _ _ _ _ _ hC, ?_⟩
  · intro x hx
    rcases List.mem_or_eq_of_mem_set hx with h' | h'
    · exact h.small x h'
    · rw [h']; exact hy
  · intro j hj
    simp at hj
    have hcj := hc j hj
    have hjs : j < C.size := (Array.getElem?_eq_some_iff.1 hcj).1
    by_cases hij : i = j
    · subst hij
      simp [List.getD, hj, hjs]
    · rw [Array.getElem?_setIfInBounds_ne hij, hcj]
      simp [List.getD, List.getElem?_set_ne hij]

theorem Tryd.info5' : (Tryd.prog.info? 5).map (fun i => (i.zero, i.size, i.bytes)) = some (some (.int .u8 0), 1, 1) := by kernel_rfl

theorem bytes_cells {w : World} {g o : Nat} {xs : List Nat} (hx : Bytes w (some ⟨g, o, none⟩) xs) : ∀ j u, (vals xs)[j]? = some u → w.cell? ((⟨g, o, none⟩ : Addr).add j) = some u := by
  intro j u hj
  simp only [vals, List.getElem?_map, Option.map_eq_some_iff] at hj
  obtain ⟨x, hx', rfl⟩ := hj
  have hlt : j < xs.length := (List.getElem?_eq_some_iff.1 hx').1
  rcases hx.lie with h0 | ⟨g', o', e, hg, hc⟩
  · subst h0; simp at hlt
  · cases e
    have := hc j hlt
    simp only [List.getD, hx', Option.getD_some] at this
    unfold Addr.add
    by_cases h0 : j = 0
    · subst h0; simpa using this
    · simpa [h0] using this

theorem own_of {w : World} {B g n c : Nat} {xs : List Nat} (hl : xs.length = n) (hs : ∀ x ∈ xs, x < 256) (h : w.ownsRow B 5 1 (.slice (some ⟨g, 0, none⟩) n c) n (vals xs)) : Own B w g c xs := by
  rcases h.2 with ⟨h1, _⟩ | ⟨g', cap, cur, h1, h2, hg, h3, _, h5, ht⟩
  · cases h1
  · cases h1
    refine ⟨h2, by omega, hs, cur, hg, fun j hj => ?_⟩
    have : (vals xs)[j]? = some (.int .u8 (xs.getD j 0 : Nat)) := by simp [vals, List.getD, hj]
    rw [← ht, List.getElem?_take, if_pos (by omega)] at this
    simpa using this

theorem nil_owns (w : World) (B : Nat) : w.ownsRow B 5 1 (.slice none 0 0) 0 [] := ⟨rfl, Or.inl ⟨rfl, rfl⟩⟩

set_option maxRecDepth 100000 in
set_option maxHeartbeats 400000 in
theorem copy_some (w : World) (g o m cap : Nat) (xs : List Nat) (hm : xs.length = m) (h0 : 0 < m) (hx : Bytes w (some ⟨g, o, none⟩) xs) (hlen : m ≤ 140737488351232) :
    Calls Tryd.prog 12 #[.slice (some ⟨g, o, none⟩) m cap] w fun e w' => ∃ c', e = .returned (.slice (some ⟨w.heap.size, 0, none⟩) m c') ∧ Own w.heap.size w' w.heap.size c' xs ∧ Below w.heap.size w w' := by
  obtain ⟨i0, hi, hz0, hz1, hz2⟩ := info_parts Tryd.info5'
  have HN := hide (bytes_cells hx)
  have H1 : Hid (∀ u ∈ vals xs, u.oneCell' = true) := fun u hu => by
    simp only [vals, List.mem_map] at hu
    obtain ⟨x, _, rfl⟩ := hu
    rfl
  have HL : Hid ((vals xs).length = m * 1) := by show _ = _; simp [vals, hm]
  have HS : Hid (∀ x ∈ xs, x < 256) := hx.small
  have HM : Hid (xs.length = m) := hm
  have HO := hide (nil_owns w w.heap.size)
  clear hx hm
  go_enter Tryd.func12, Tryd.ntmps12
  go_wp2_with (at_builtin; refine wpList_append_lies _ rfl (.tmp 4) (.tmp 5) 27 rfl w.heap.size 5 i0 (.int .u8 0) 1 1 Tryd.underlying27 hi hz0 hz1 hz2 rfl (by omega) _ _ _ rfl HO.out ⟨g, o, none⟩ m cap (vals xs) rfl HL.out HN.out H1.out h0 (by unfold maxLen; omega) (by omega) (by omega) _ rfl ?_; intro g' cap' w1 hown hgrow hat hltg)
  go_ret
  obtain rfl : g' = w.heap.size := by
    rcases hat with h | h
    · cases h
    · exact h
  refine ⟨cap', ?_, ?_, ?_⟩
  · simp
  · exact own_of HM.out HS.out (by simpa using hown)
  · exact (Below.refl _ _).grown hgrow (Nat.le_refl _) (fun k e => by cases e)

end Go.Proofs.YtlnldipiofddkabDoor
