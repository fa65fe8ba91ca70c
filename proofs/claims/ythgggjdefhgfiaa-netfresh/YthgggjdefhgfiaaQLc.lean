import Derived.Test.YthgggjdefhgfiaaQLb
namespace Go.Proofs.Ythgggjdefhgfiaa.Q
open Go.RowKit

set_option maxRecDepth 100000 in
set_option maxHeartbeats 2000000 in
theorem late_same (K : Knd) (w : World) (t : Nat) (G W : Value) (xs : List Gt) (h : Lt K w t G W xs) (hxs : xs.length ≤ 20000) :
    Calls Try.prog 48 #[.pointer (some ⟨t, 0, none⟩)] w fun e w' => e = .returned (.bool true) ∧ ∃ q, w' = w.drewN q := by
  have HL := hide h
  obtain ⟨q0, q1, qf⟩ := blk2 h.blk
  obtain ⟨lp, lc, hG⟩ : ∃ p c, G = .slice p xs.length c := by
    rcases h.gs.2 with ⟨h1, h2⟩ | ⟨g, cap, cur, h1, _⟩
    · exact ⟨none, 0, by rw [h1, h2]⟩
    · exact ⟨_, cap, h1⟩
  obtain ⟨mp, mc, hM⟩ : ∃ p c, W = .slice p xs.length c := by
    rcases h.ws.2 with ⟨h1, h2⟩ | ⟨g, cap, cur, h1, _⟩
    · exact ⟨none, 0, by rw [h1, h2]⟩
    · exact ⟨_, cap, h1⟩
  subst hG
  subst hM
  clear h
  go_enter Try.func48, Try.ntmps48
  go_wp2
  go_loopw [3] (fun i wr => ∃ (j q : Nat), j ≤ xs.length ∧ i = .int .i64 j ∧ Hid (wr = w.drewN q)) (fun i _ => xs.length - (intOf i).toNat)
  case atStart => exact ⟨0, 0, Nat.zero_le _, rfl, rfl⟩
  case round =>
    obtain ⟨j, q, hj, rfl, HW⟩ := hrel
    have e0 : wr.cell? ⟨t, 0, none⟩ = some (.slice lp xs.length lc) := by rw [HW.out]; exact q0
    have e1 : wr.cell? ⟨t, 1, none⟩ = some (.slice mp xs.length mc) := by rw [HW.out]; exact q1
    by_cases hlt : j < xs.length
    · have hop : xs[j]? = some (xs[j]'hlt) := List.getElem?_eq_getElem _
      obtain ⟨gl, _, hgl, cl0⟩ := row_cell HL.out.gs (k := j) (a := (xs[j]'hlt).val) (by simp [hop])
      obtain ⟨gm, _, hgm, cm0⟩ := row_cell HL.out.ws (k := j) (a := (xs[j]'hlt).wal) (by simp [hop])
      cases hgl
      cases hgm
      have hmem := List.mem_of_getElem? hop
      have hx := HL.out.rows _ hmem
      have hsm := HL.out.small _ hmem
      obtain ⟨g, hwp, _, hli⟩ := HL.out.wants _ hmem
      generalize xs[j]'hlt = x at *
      obtain ⟨p, l, c, ys, wp, wc⟩ := x
      simp only [Gt.val, Gt.wal] at cl0 cm0 hx hsm hli hwp
      clear hop hmem
      subst hwp
      have hyl : ys.length = l := by have := hx.1; rw [vals_len] at this; omega
      have hv1 : ∀ n, (convert 59 9 (.slice p l c)).run Try.prog (wr.drewN n) = .ok (.string (str ys)) (wr.drewN n) := fun n => conv_str (by rw [HW.out]; exact owns_bytes (w := (w.drewN q).drewN n) hx rfl hsm) hyl c
      have hv2 : ∀ n, (convert 59 9 (.slice (some ⟨g, 0, none⟩) l wc)).run Try.prog (wr.drewN n) = .ok (.string (str ys)) (wr.drewN n) := fun n => conv_str (by rw [HW.out]; exact Lies.bytes (w := (w.drewN q).drewN n) hli hsm) hyl wc
      have cl : wr.cell? ⟨gl, j, none⟩ = some (.slice p l c) := by rw [HW.out]; exact cl0
      have cm : wr.cell? ⟨gm, j, none⟩ = some (.slice (some ⟨g, 0, none⟩) l wc) := by rw [HW.out]; exact cm0
      clear hx hsm hli hyl
      generalize str ys = S at *
      have l1 : (j : Int) < (xs.length : Int) := by omega
      have l2 : (0 : Int) ≤ (j : Int) := by omega
      go_wp2
      go_quiet (fail)
      go_wp2
      go_roundw
      case rel => exact ⟨j + 1, q + nq, by omega, by go_num, by show _ = _; rw [HW.out, World.drewN_drewN]⟩
      case measure => simp [intOf]; omega
    · have l1 : ¬ (j : Int) < (xs.length : Int) := by omega
      go_wp2
      go_ret
      exact ⟨rfl, q, HW.out⟩


end Go.Proofs.Ythgggjdefhgfiaa.Q
