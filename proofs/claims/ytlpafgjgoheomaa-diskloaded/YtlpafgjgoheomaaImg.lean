import Derived.Test.YtlpafgjgoheomaaDInv
namespace Go.Proofs.Ytlpafgjgoheomaa
open Go.RowKit Go.Maps

theorem Try.infoFb : (Try.prog.info? 28).map (fun i => (i.zero, i.size, i.bytes)) = some (some (.agg #[.string ⟨#[]⟩, .slice none 0 0]), 2, 40) := by kernel_rfl

abbrev Image := List (Nm × List Nat)
/-- An image's cells, its bytes lying where ds says. -/
def imv (img : Image) (ds : List (Option Addr × Nat)) : List Value := (img.zip ds).flatMap fun q => [.string ⟨q.1.1.toArray⟩, .slice q.2.1 q.1.2.length q.2.2]
theorem imv_len {img : Image} {ds : List (Option Addr × Nat)} (h : ds.length = img.length) : (imv img ds).length = img.length * 2 := by
  unfold imv
  induction img generalizing ds with
  | nil => simp
  | cons p img ih =>
    cases ds with
    | nil => simp at h
    | cons d ds =>
      have := ih (ds := ds) (by simpa using h)
      simp only [List.zip_cons_cons, List.flatMap_cons, List.length_append, List.length_cons, List.length_nil, this]
      omega
theorem imv_snoc {img : Image} {ds : List (Option Addr × Nat)} (h : ds.length = img.length) (p : Nm × List Nat) (d : Option Addr × Nat) : imv (img ++ [p]) (ds ++ [d]) = imv img ds ++ [.string ⟨p.1.toArray⟩, .slice d.1 p.2.length d.2] := by
  unfold imv
  rw [List.zip_append h.symm]
  simp
theorem imv_at {img : Image} {ds : List (Option Addr × Nat)} {k : Nat} {p : Nm × List Nat} {d : Option Addr × Nat} (hp : img[k]? = some p) (hd : ds[k]? = some d) : (imv img ds)[k * 2]? = some (.string ⟨p.1.toArray⟩) ∧ (imv img ds)[k * 2 + 1]? = some (.slice d.1 p.2.length d.2) := by
  induction img generalizing ds k with
  | nil => simp at hp
  | cons q img ih =>
    cases ds with
    | nil => simp at hd
    | cons e ds =>
      have hs : imv (q :: img) (e :: ds) = [.string ⟨q.1.toArray⟩, .slice e.1 q.2.length e.2] ++ imv img ds := by simp [imv]
      rw [hs]
      cases k with
      | zero => simp at hp hd; subst hp; subst hd; exact ⟨rfl, rfl⟩
      | succ k =>
        have := ih (k := k) (by simpa using hp) (by simpa using hd)
        rw [List.getElem?_append_right (by simp; omega), List.getElem?_append_right (by simp; omega)]
        simp only [List.length_cons, List.length_nil]
        rw [show (k + 1) * 2 - (0 + 1 + 1) = k * 2 by omega, show (k + 1) * 2 + 1 - (0 + 1 + 1) = k * 2 + 1 by omega]
        exact this

/-- AN IMAGE IN MEMORY, of nobody's disk. -/
structure Im (w : World) (K : Knd) (v : Value) (img : Image) : Prop where
  small : ∀ p ∈ img, (∀ x ∈ p.2, x < 256) ∧ p.2.length ≤ 1099511627776
  row : ∃ ds : List (Option Addr × Nat), ds.length = img.length ∧ Rk w K (0, 0) 28 2 v img.length (imv img ds) ∧ ∀ (j : Nat) (p : Nm × List Nat) (d : Option Addr × Nat), img[j]? = some p → ds[j]? = some d → Rk w K (0, 0) 5 1 (.slice d.1 p.2.length d.2) p.2.length (vals p.2)
theorem Im.kept {p : Nat × Nat → Prop} {K K' : Knd} {w w' : World} {v : Value} {img : Image} (h : Im w K v img) (hk : Kp p K K' w w') (hp : ¬ p (0, 0)) : Im w' K' v img := by
  obtain ⟨ds, h1, h2, h3⟩ := h.row
  exact ⟨h.small, ds, h1, h2.kept hk hp, fun j q d hq hd => (h3 j q d hq hd).kept hk hp⟩
theorem Im.form {K : Knd} {w : World} {v : Value} {img : Image} (h : Im w K v img) : ∃ a c, v = .slice a img.length c ∧ img.length ≤ c ∧ c ≤ maxLen := by
  obtain ⟨ds, h1, h2, h3⟩ := h.row
  exact h2.form
theorem im_nil (w : World) (K : Knd) : Im w K (.slice none 0 0) [] := ⟨fun _ h => (by cases h), [], rfl, rk_nil _ _ _ _ _, fun j p d h => (by simp at h)⟩
/-- Its cells. -/
theorem Im.at {K : Knd} {w : World} {a : Option Addr} {n c : Nat} {img : Image} (h : Im w K (.slice a n c) img) {k : Nat} {p : Nm × List Nat} (hp : img[k]? = some p) :
    ∃ g ap cp, a = some ⟨g, 0, none⟩ ∧ g < w.heap.size ∧ w.cell? ⟨g, k * 2, none⟩ = some (.string ⟨p.1.toArray⟩) ∧ w.cell? ⟨g, k * 2 + 1, none⟩ = some (.slice ap p.2.length cp) ∧ Bytes w ap p.2 ∧ Rk w K (0, 0) 5 1 (.slice ap p.2.length cp) p.2.length (vals p.2) := by
  obtain ⟨ds, h1, h2, h3⟩ := h.row
  have hkl := (List.getElem?_eq_some_iff.1 hp).1
  obtain ⟨d, hd⟩ : ∃ d, ds[k]? = some d := ⟨_, List.getElem?_eq_getElem (by omega)⟩
  have hc := imv_at hp hd
  have hr := h3 k p d hp hd
  rcases h2.own.2 with ⟨_, e2⟩ | ⟨g, cap, cur, e1, _, hg, e3, e4, e5, e6⟩
  · omega
  · cases e1
    refine ⟨g, d.1, d.2, rfl, lt_of_block hg, ?_, ?_, owns_bytes hr.own (h.small p (List.mem_of_getElem? hp)).1, hr⟩
    · have := hc.1
      rw [← e6, List.getElem?_take, if_pos (by omega)] at this
      simp only [World.cell?, hg]
      simpa using this
    · have := hc.2
      rw [← e6, List.getElem?_take, if_pos (by omega)] at this
      simp only [World.cell?, hg]
      simpa using this

set_option maxRecDepth 100000 in
set_option maxHeartbeats 400000 in
theorem eq_same (w : World) (sp sq : Option Addr) (n c1 c2 : Nat) (xs : List Nat) (hl : xs.length = n) (hn : n ≤ 140737488355328) (h1 : Bytes w sp xs) (h2 : Bytes w sq xs) :
    Calls Try.prog 19 #[.slice sp n c1, .slice sq n c2] w fun e w' => e = .returned (.bool true) ∧ ∃ q, w' = w.drewN q := by
  by_cases h0 : n = 0
  · subst h0
    go_enter Try.func19, Try.ntmps19
    go_wp2
    refine wp_loop_rounds 1 ?_
    rw [rounds_succ]
    go_wp2
    go_ret
    exact ⟨rfl, 0, rfl⟩
  · obtain ⟨g, o, rfl, hg, hc⟩ : ∃ g o, sp = some ⟨g, o, none⟩ ∧ g < w.heap.size ∧ ∀ j, j < xs.length → w.cell? ⟨g, o + j, none⟩ = some (.int .u8 (xs.getD j 0)) := by
      rcases h1.lie with h | h
      · subst h; simp at hl; omega
      · exact h
    obtain ⟨g', o', rfl, hg', hc'⟩ : ∃ g o, sq = some ⟨g, o, none⟩ ∧ g < w.heap.size ∧ ∀ j, j < xs.length → w.cell? ⟨g, o + j, none⟩ = some (.int .u8 (xs.getD j 0)) := by
      rcases h2.lie with h | h
      · subst h; simp at hl; omega
      · exact h
    rw [hl] at hc hc'
    have HC := hide hc
    have HC' := hide hc'
    clear hc hc' h1 h2 hl
    go_enter Try.func19, Try.ntmps19
    go_wp2
    go_loopw [5] (fun i wr => ∃ k q : Nat, k ≤ n ∧ i = .int .i64 k ∧ Hid (wr = w.drewN q)) (fun i _ => n - (intOf i).toNat)
    case atStart => exact ⟨0, 0, Nat.zero_le _, rfl, rfl⟩
    case round =>
      obtain ⟨k, q, hk, rfl, HW⟩ := hrel
      by_cases hlt : k < n
      · have d1 : wr.cell? ⟨g, o + k, none⟩ = some (.int .u8 (xs.getD k 0)) := by rw [HW.out]; exact HC.out k hlt
        have d2 : wr.cell? ⟨g', o' + k, none⟩ = some (.int .u8 (xs.getD k 0)) := by rw [HW.out]; exact HC'.out k hlt
        have i1 : (0 : Int) ≤ (k : Int) := by omega
        have i2 : (k : Int) < (n : Int) := by omega
        generalize xs.getD k 0 = x at *
        go_wp2
        go_quiet (fail)
        go_wp2
        go_roundw
        case rel => exact ⟨k + 1, q + nq, by omega, by go_num, by show _ = _; rw [HW.out, World.drewN_drewN]⟩
        case measure => simp [intOf]; omega
      · obtain rfl : k = n := by omega
        go_wp2
        go_ret
        exact ⟨rfl, q, HW.out⟩

theorem im_drewN {w : World} {K : Knd} {v : Value} {img : Image} (h : Im w K v img) (n : Nat) : Im (w.drewN n) K v img := h.kept (p := fun _ => False) ((Kp.refl _ K w).drewN n) (fun h => h)

set_option maxRecDepth 100000 in
set_option maxHeartbeats 2000000 in
theorem eqImage_same (w : World) (K : Knd) (va vb : Value) (img : Image) (ha : Im w K va img) (hb : Im w K vb img) (hn : img.length ≤ 1099511627776) :
    Calls Try.prog 45 #[va, vb] w fun e w' => e = .returned (.bool true) ∧ ∃ q, w' = w.drewN q := by
  obtain ⟨a1, c1, rfl, _, _⟩ := ha.form
  obtain ⟨a2, c2, rfl, _, _⟩ := hb.form
  have HA := hide ha
  have HB := hide hb
  obtain ⟨n, hnl⟩ : ∃ n, img.length = n := ⟨_, rfl⟩
  have HN := hide hnl
  rw [hnl] at hn HA HB ⊢
  clear ha hb hnl
  go_enter Try.func45, Try.ntmps45
  go_wp2
  go_loopw [5] (fun i wr => ∃ k q : Nat, k ≤ n ∧ i = .int .i64 k ∧ Hid (wr = w.drewN q)) (fun i _ => n - (intOf i).toNat)
  case atStart => exact ⟨0, 0, Nat.zero_le _, rfl, rfl⟩
  case round =>
    obtain ⟨k, q, hk, rfl, HW⟩ := hrel
    by_cases hlt : k < n
    · obtain ⟨p, hp⟩ : ∃ p, img[k]? = some p := ⟨_, List.getElem?_eq_getElem (by rw [HN.out]; exact hlt)⟩
      have hA : Im wr K (.slice a1 n c1) img := by rw [HW.out]; exact im_drewN HA.out q
      have hB : Im wr K (.slice a2 n c2) img := by rw [HW.out]; exact im_drewN HB.out q
      obtain ⟨g1, p1, d1, rfl, l1, x1, y1, b1, _⟩ := hA.at hp
      obtain ⟨g2, p2, d2, rfl, l2, x2, y2, b2, _⟩ := hB.at hp
      have hsm := HA.out.small p (List.mem_of_getElem? hp)
      have HQ := hide (fun q => eq_same (wr.drewN q) p1 p2 p.2.length d1 d2 p.2 rfl (by omega) ⟨b1.small, b1.lie⟩ ⟨b2.small, b2.lie⟩)
      have i1 : (0 : Int) ≤ (k : Int) := by omega
      have i2 : (k : Int) < (n : Int) := by omega
      clear hp hA hB b1 b2 hsm
      generalize hs1 : (⟨p.1.toArray⟩ : ByteArray) = s1 at *
      clear hs1
      generalize p.2.length = pl at *
      go_wp2
      go_quiet (first | (go_at_call 19; exact Calls.quiet_of (HQ.out _)))
      go_wp2
      go_roundw
      case rel => exact ⟨k + 1, q + nq, by omega, by go_num, by show _ = _; rw [HW.out, World.drewN_drewN]⟩
      case measure => simp [intOf]; omega
    · obtain rfl : k = n := by omega
      go_wp2
      go_ret
      exact ⟨rfl, q, HW.out⟩

theorem image_same (w : World) (K : Knd) (va vb : Value) (img : Image) (ha : Im w K va img) (hb : Im w K vb img) (hn : img.length ≤ 1099511627776) :
    Calls Try.prog 20 #[va, vb] w fun e w' => e = .returned (.bool true) ∧ ∃ q, w' = w.drewN q := by
  have HE := hide (eqImage_same w K va vb img ha hb hn)
  obtain ⟨a1, c1, rfl, _, _⟩ := ha.form
  obtain ⟨a2, c2, rfl, _, _⟩ := hb.form
  clear ha hb
  generalize img.length = n at *
  go_enter Try.func20, Try.ntmps20
  go_wp2_with fail
  refine HE.out.mono ?_
  rintro e w2 ⟨rfl, q, rfl⟩
  go_wp2
  go_ret
  exact ⟨rfl, q, rfl⟩

end Go.Proofs.Ytlpafgjgoheomaa
