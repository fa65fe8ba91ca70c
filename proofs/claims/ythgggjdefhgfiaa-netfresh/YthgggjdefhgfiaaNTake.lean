import Derived.Test.YthgggjdefhgfiaaNDrop
import Derived.Laws.BytesArg
import Derived.Lib.JoinLaws
namespace Go.Proofs.Ythgggjdefhgfiaa
open Go.RowKit

/-- The bytes as a string. -/
def str (xs : List Nat) : ByteArray := strOfNums (xs.map fun (x : Nat) => (x : Int))
theorem conv_str {w : World} {sp : Option Addr} {xs : List Nat} {m : Nat} (h : Bytes w sp xs) (hm : xs.length = m) (c : Nat) :
    (convert 59 9 (.slice sp m c)).run Try.prog w = .ok (.string (str xs)) w := by
  subst hm
  have hz : ∀ a : Option Addr, (convert 59 9 (.slice a 0 c)).run Try.prog w = .ok (.string (str [])) w := fun a => by
    rw [run_convert_bytes_string w 59 9 5 a 0 c Try.underlying59 Try.underlying5 Try.underlying9]
    cases a with
    | none => simp [Conv.bytesToString]; rfl
    | some a =>
      rw [run_bytesToString w a 0 c [] (by simpa using run_loadCells_list (P := Try.prog) w a [] (by simp))]
      rfl
  rcases h.lie with h0 | ⟨g, o, rfl, hg, hc⟩
  · subst h0; exact hz sp
  · refine run_convert_bytes_arg w 59 5 Try.underlying59 Try.underlying5 g o _ c _ (by simp) (fun i hi => ?_) 9 Try.underlying9
    rw [hc i hi]
    simp [List.getD, hi]
theorem nums_str {xs : List Nat} (h : ∀ x ∈ xs, x < 256) : nums (str xs) = xs := by
  have e : (str xs).data.toList = xs.map UInt8.ofNat := by
    unfold str strOfNums
    simp [Function.comp_def]
  unfold nums
  rw [e, List.map_map]
  conv => rhs; rw [← List.map_id xs]
  apply List.map_congr_left
  intro x hx
  have := h x hx
  simp [Nat.mod_eq_of_lt this]
theorem str_size {xs : List Nat} (h : ∀ x ∈ xs, x < 256) : (str xs).size = xs.length := by rw [← nums_len, nums_str h]

set_option maxRecDepth 100000 in
set_option maxHeartbeats 1000000 in
theorem Send_any (w : World) (K : Knd) (o nb : Nat) (N : Nt) (h : Nk w K o nb N) (hr : N.room ≤ 8192) (hl : N.lost < 18446744073709551615) (to : Int) (sp : Option Addr) (n c : Nat) (xs : List Nat) (hx : Bytes w sp xs) (hn : xs.length = n) :
    Calls Try.prog 12 #[.pointer (some ⟨nb, 0, none⟩), .int .i64 to, .slice sp n c] w fun e w' => ∃ K', e = .returned (.bool N.adds) ∧ Nk w' K' o nb (N.send ⟨to, str xs⟩) ∧ Kp (PNet o) K K' w w' := by
  have HN := hide h
  have hnl := h.lt
  have hcv : ∀ cc, (convert 59 9 (.slice sp n cc)).run Try.prog w.drew = .ok (.string (str xs)) w.drew := fun cc => conv_str (w := w.drew) ⟨hx.small, hx.lie⟩ hn cc
  obtain ⟨s, hs⟩ : ∃ s, str xs = s := ⟨_, rfl⟩
  rw [hs] at hcv ⊢
  have HA := hide (add_any w.drew K o nb N (h.kept (p := fun _ => False) (Kp.refl _ _ _).drew (fun _ h => h)) hr ⟨to, s⟩)
  clear hs hx hn h
  by_cases hlt : N.row.length < N.room
  · have HE : Hid (N.adds = true ∧ N.add ⟨to, s⟩ = N.send ⟨to, s⟩) := by show _ ∧ _; unfold Nt.adds Nt.add Nt.send; rw [if_pos hlt, if_pos hlt]; simp [hlt]
    clear hlt
    have had : N.adds = true := HE.out.1
    go_enter Try.func12, Try.ntmps12
    go_wp2
    go_region_law (first | (go_simp; go_at_call 41; refine HA.out.mono ?_; rintro e w2 ⟨K2, rfl, hn2, hk2⟩; have HN2 := hide hn2; have HK2 := hide hk2; clear hn2 hk2))
    all_goals go_wp2
    all_goals
      go_ret
      exact ⟨K2, by rw [HE.out.1]; rfl, by rw [← HE.out.2]; exact HN2.out, (Kp.refl _ _ _).drew.trans HK2.out⟩
  · have HE : Hid (N.adds = false ∧ N.add ⟨to, s⟩ = N ∧ N.send ⟨to, s⟩ = { N with lost := N.lost + 1 }) := by show _ ∧ _ ∧ _; unfold Nt.adds Nt.add Nt.send; rw [if_neg hlt, if_neg hlt]; simp [hlt]
    clear hlt
    have had : N.adds = false := HE.out.1
    obtain ⟨lo, hlo⟩ : ∃ lo, N.lost = lo := ⟨_, rfl⟩
    obtain ⟨l1, hl1⟩ : ∃ l1, lo + 1 = l1 := ⟨_, rfl⟩
    have hl' : (lo : Int) < 18446744073709551615 := by omega
    have hl2 : (lo : Int) + 1 = (l1 : Int) := by omega
    have hl3 : (l1 : Int) < 18446744073709551616 := by omega
    have HL : Hid (N.lost = lo ∧ lo + 1 = l1) := ⟨hlo, hl1⟩
    clear hlo hl1 hl
    go_enter Try.func12, Try.ntmps12
    go_wp2
    go_region_law (first | (go_simp; go_at_call 41; refine HA.out.mono ?_; rintro e w2 ⟨K2, rfl, hn2, hk2⟩; have HK2 := hide hk2; rw [HE.out.2.1] at hn2; obtain ⟨rv, hw2⟩ := hn2; have hb2 := hw2.blk; unfold ncells at hb2; rw [HL.out.1] at hb2; have HW2 := hide hw2; have HB2 := hide hb2; obtain ⟨z0, z1, z2, zf⟩ := blk3 hb2; have hlt2 := lt_of_block hb2; clear hk2 hw2 hb2))
    all_goals go_wp2
    all_goals
      go_ret
      have hw := HW2.out
      have kpS := HK2.out.setCell (b := nb) (i := 2) (v := .int .u64 (l1 : Int)) (Or.inr (Or.inl ((HK2.out.same nb hnl).symm.trans hw.kn)))
      refine ⟨K2, by rw [HE.out.1]; rfl, ?_, (Kp.refl _ _ _).drew.trans kpS⟩
      rw [HE.out.2.2]
      refine ⟨rv, ?_, hw.kn, ⟨owns_set hw.row.own (owns_ne hw.row.own hw.blk (by decide)), hw.row.kind⟩⟩
      rw [block_set HB2.out, HL.out.1, HL.out.2]
      rfl

/-- What Take leaves. -/
def TkPost (K : Knd) (kk : Nat × Nat) (o nb : Nat) (w : World) (N : Nt) (i : Int) (e : Ending) (w' : World) : Prop :=
  Nk w' (ext K w.heap.size kk) o nb (N.dropped i) ∧ Kp (PNet o) K (ext K w.heap.size kk) w w' ∧ ((N.has i = true ∧ ∃ m g c, N.row[i.toNat]? = some m ∧ e = .returned (.tuple #[.agg #[.int .i64 m.to, .slice (some ⟨g, 0, none⟩) m.b.size c], .bool true]) ∧ w.heap.size ≤ g ∧ Told w' g c m.b) ∨ (N.has i = false ∧ e = .returned (.tuple #[.agg #[.int .i64 0, .slice none 0 0], .bool false])))
set_option maxRecDepth 100000 in
set_option maxHeartbeats 1000000 in
theorem Double_any (w : World) (K : Knd) (o nb : Nat) (N : Nt) (h : Nk w K o nb N) (hr : N.room ≤ 8192) (i : Int) :
    Calls Try.prog 33 #[.pointer (some ⟨nb, 0, none⟩), .int .i64 i] w fun e w' => ∃ K', Kp (PNet o) K K' w w' ∧ ((N.has i = true ∧ ∃ m, N.row[i.toNat]? = some m ∧ e = .returned (.bool N.adds) ∧ Nk w' K' o nb (N.add m)) ∨ (N.has i = false ∧ e = .returned (.bool false) ∧ w' = w ∧ K' = K)) := by
  have HH := hide (has_any w _ _ _ _ h i)
  by_cases hx : N.has i = true
  · have HX := hide hx
    obtain ⟨k, m, rfl, hk, hm⟩ := has_true hx
    rw [hx] at HH
    have HA := hide (add_any w K o nb N h hr m)
    obtain ⟨rv, hw⟩ := h
    obtain ⟨a, c, hrv, _, _⟩ := hw.row.form
    subst hrv
    obtain ⟨g, rfl, c1, c2, c3, c4, c5, c6, cur, c7, c8, c9⟩ := nrow_cells hw.row.own hm
    have hblk := hw.blk
    unfold ncells at hblk
    obtain ⟨y0, y1, y2, yf⟩ := blk3 hblk
    have hnl := lt_of_block hblk
    have HM := hide hm
    generalize N.row.length = L at *
    clear hw hblk hm hx hk c7 c8 c9
    go_enter Try.func33, Try.ntmps33
    go_wp2_with (first | (go_at_call 44; refine HH.out.mono ?_; rintro e w9 ⟨rfl, h9⟩; have h9 := h9.symm; subst h9) | (go_at_call 41; refine HA.out.mono ?_; rintro e w2 ⟨K2, rfl, hn2, hk2⟩; have HN2 := hide hn2; have HK2 := hide hk2; clear hn2 hk2))
    go_ret
    exact ⟨K2, HK2.out, Or.inl ⟨HX.out, m, HM.out, rfl, HN2.out⟩⟩
  · have hxf : N.has i = false := by simpa using hx
    have HX := hide hxf
    rw [hxf] at HH
    clear hxf hx h
    go_enter Try.func33, Try.ntmps33
    go_wp2_with (go_at_call 44; refine HH.out.mono ?_; rintro e w9 ⟨rfl, h9⟩; have h9 := h9.symm; subst h9)
    go_ret
    exact ⟨K, Kp.refl _ _ _, Or.inr ⟨HX.out, rfl, rfl, rfl⟩⟩

end Go.Proofs.Ythgggjdefhgfiaa
