import Derived.Test.YtlpafgjgoheomaaGivenA
namespace Go.Proofs.Ytlpafgjgoheomaa
open Go.RowKit Go.Maps

theorem owns_cut2 {w : World} {B g n c : Nat} {e : TypeId} {xs : List Value} (h : w.ownsRow B e 2 (.slice (some ⟨g, 0, none⟩) (n + 1) c) (n + 1) xs) : w.ownsRow B e 2 (.slice (some ⟨g, 0, none⟩) n c) n (xs.take (n * 2)) := by
  have hl := h.1
  rcases h.2 with ⟨h1, _⟩ | ⟨g', cap, cur, h1, h2, hg, h3, h4, h5, h6⟩
  · cases h1
  · cases h1
    refine ⟨by rw [List.length_take]; omega, Or.inr ⟨g, c, cur, rfl, h2, hg, by omega, h4, h5, ?_⟩⟩
    rw [← h6, List.take_take, Nat.min_eq_left (by omega)]
/-- What was given, as an image. -/
theorem Gv.cells {w : World} {K : Knd} {g n c : Nat} {img : Image} (h : Gv w K g n c img) {j : Nat} {p : Nm × List Nat} (hp : img[j]? = some p) (hs : ∀ x ∈ p.2, x < 256) :
    ∃ g' c', w.cell? ⟨g, j * 2, none⟩ = some (.string ⟨p.1.toArray⟩) ∧ w.cell? ⟨g, j * 2 + 1, none⟩ = some (.slice (some ⟨g', 0, none⟩) p.2.length c') ∧ Own 0 w g' c' (p.2 ++ marks) := by
  obtain ⟨ds, h1, h2, h3⟩ := h.row
  have hj : j < img.length := (List.getElem?_eq_some_iff.1 hp).1
  obtain ⟨d, hd⟩ : ∃ d, ds[j]? = some d := ⟨_, List.getElem?_eq_getElem (by omega)⟩
  have hr := h3 j p d hp hd
  have hi := imv_at hp hd
  have hil := imv_len h1
  have hn := h.len
  rcases h2.own.2 with ⟨e1, _⟩ | ⟨g1, cap, cur, e1, _, hg, e3, e4, e5, e6⟩
  · cases e1
  · cases e1
    obtain ⟨dp, dc⟩ := d
    cases dp with
    | none =>
      rcases hr.own.2 with ⟨e7, e8⟩ | ⟨g2, _, _, e7, _⟩
      · omega
      · cases e7
    | some ad =>
      rcases hr.own.2 with ⟨e7, _⟩ | ⟨g2, cap2, cur2, e7, r⟩
      · cases e7
      · cases e7
        have hgt : ∀ k v, (imv img ds)[k]? = some v → w.cell? ⟨g, k, none⟩ = some v := fun k v hk => by
          have hkl := (List.getElem?_eq_some_iff.1 hk).1
          have : (imv img ds ++ [Value.string ⟨mkN.toArray⟩, .slice none 0 0])[k]? = some v := by rw [List.getElem?_append_left hkl]; exact hk
          rw [← e6, List.getElem?_take, if_pos (by omega)] at this
          simp only [World.cell?, hg]
          simpa using this
        refine ⟨g2, dc, hgt _ _ hi.1, hgt _ _ hi.2, own_full (fun x hx => ?_) hr.own⟩
        rcases List.mem_append.1 hx with e | e
        · exact hs x e
        · exact marks_small x e
theorem Gv.last {w : World} {K : Knd} {g n c : Nat} {img : Image} (h : Gv w K g n c img) : w.cell? ⟨g, n * 2, none⟩ = some (.string ⟨mkN.toArray⟩) ∧ n + 1 ≤ c ∧ c ≤ maxLen ∧ g < w.heap.size := by
  obtain ⟨ds, h1, h2, h3⟩ := h.row
  have hil := imv_len h1
  have hn := h.len
  rcases h2.own.2 with ⟨e1, _⟩ | ⟨g1, cap, cur, e1, _, hg, e3, e4, e5, e6⟩
  · cases e1
  · cases e1
    refine ⟨?_, e3, e4, lt_of_block hg⟩
    have : (imv img ds ++ [Value.string ⟨mkN.toArray⟩, .slice none 0 0])[n * 2]? = some (.string ⟨mkN.toArray⟩) := by
      rw [List.getElem?_append_right (by omega), hil, hn, Nat.sub_self]; rfl
    rw [← e6, List.getElem?_take, if_pos (by omega)] at this
    simp only [World.cell?, hg]
    simpa using this
theorem Gv.imi {w : World} {K : Knd} {g n c : Nat} {img : Image} (h : Gv w K g n c img) (hs : ∀ p ∈ img, ∀ x ∈ p.2, x < 256) (hn : ∀ p ∈ img, p.2.length ≤ 140737488351232 ∧ p.1.length ≤ 140737488355328) : Imi w (some ⟨g, 0, none⟩) img := by
  refine ⟨hn, Or.inr ⟨g, 0, rfl, h.last.2.2.2, fun k p hp => ?_⟩⟩
  obtain ⟨g', c', c0, c1, ho⟩ := h.cells hp (hs p (List.mem_of_getElem? hp))
  exact ⟨_, c', by simpa using c0, by simpa using c1, ho.front⟩
theorem Gv.im {w : World} {K : Knd} {g n c : Nat} {img : Image} (h : Gv w K g n c img) (hs : ∀ p ∈ img, (∀ x ∈ p.2, x < 256) ∧ p.2.length ≤ 1099511627776) : Im w K (.slice (some ⟨g, 0, none⟩) n c) img := by
  obtain ⟨ds, h1, h2, h3⟩ := h.row
  have hil := imv_len h1
  have hn := h.len
  refine ⟨hs, ds, h1, ⟨?_, fun g' e => h2.kind g' (by simpa [Value.ownBlock] using e)⟩, fun j p d hp hd => ?_⟩
  · have := owns_cut2 h2.own
    rw [List.take_append_of_le_length (by omega), List.take_of_length_le (by omega)] at this
    rw [hn]; exact this
  · have hr := h3 j p d hp hd
    have := owns_cut hr.own p.2.length (by omega)
    rw [← vals_take, List.take_left' rfl] at this
    exact ⟨this, fun g' e => hr.kind g' (by
      obtain ⟨d1, d2⟩ := d
      cases d1 with
      | none => simp [Value.ownBlock] at e
      | some a => simpa [Value.ownBlock] using e)⟩

set_option maxRecDepth 100000 in
set_option maxHeartbeats 1000000 in
theorem untouched_any (w : World) (K : Knd) (g n c : Nat) (sp : Option Addr) (cap : Nat) (img : Image) (h : Gv w K g n c img) (hI : Imi w sp img) (hn : n ≤ 3518437208784) :
    Calls Try.prog 12 #[.slice (some ⟨g, 0, none⟩) n c, .slice sp n cap] w fun e w' => e = .returned (.bool true) ∧ ∃ q, w' = w.drewN q := by
  have HV := hide hI
  have HG := hide h
  have HN := hide h.len
  obtain ⟨z0, z1, z2, _⟩ := h.last
  unfold maxLen at z2
  have z3 : (n : Int) + 1 ≤ (c : Int) := by omega
  clear h hI
  go_enter Try.func12, Try.ntmps12
  go_wp2
  go_loopw [5] (fun i wr => ∃ k q : Nat, k ≤ n ∧ i = .int .i64 k ∧ Hid (wr = w.drewN q)) (fun i _ => n - (intOf i).toNat)
  case atStart => exact ⟨0, 0, Nat.zero_le _, rfl, rfl⟩
  case round =>
    obtain ⟨k, q, hk, rfl, HW⟩ := hrel
    by_cases hlt : k < n
    · obtain ⟨p, hp⟩ : ∃ p, img[k]? = some p := ⟨_, List.getElem?_eq_getElem (by rw [HN.out]; exact hlt)⟩
      obtain ⟨g1, o1, p1, d1, rfl, l1, x1, y1, b1⟩ := HV.out.at hp
      obtain ⟨g2, c2, x2, y2, ho⟩ := HG.out.cells hp b1.small
      have hcw : ∀ a : Addr, wr.cell? a = w.cell? a := fun a => by rw [HW.out]; rfl
      have e1 := (hcw _).trans x1
      have e2 := (hcw _).trans y1
      have e3 := (hcw _).trans x2
      have e4 := (hcw _).trans y2
      clear hcw
      have hsm := HV.out.small p (List.mem_of_getElem? hp)
      have HQ := hide (fun q' => intact_any (wr.drewN q') 0 g2 c2 p.2.length p1 d1 p.2 rfl (by rw [HW.out, World.drewN_drewN]; exact ⟨ho.base, ho.cap, ho.small, ho.row⟩) (by rw [HW.out, World.drewN_drewN]; exact ⟨b1.small, b1.lie⟩) (by omega))
      have i1 : (0 : Int) ≤ (k : Int) := by omega
      have i2 : (k : Int) < (n : Int) := by omega
      clear hp b1 hsm ho x1 y1 x2 y2
      generalize hs1 : (⟨p.1.toArray⟩ : ByteArray) = s1 at *
      clear hs1
      generalize p.2.length = pl at *
      go_wp2
      go_quiet (first | (go_at_call 41; exact Calls.quiet_of (HQ.out _)))
      go_wp2
      go_roundw
      case rel => exact ⟨k + 1, q + nq, by omega, by go_num, by show _ = _; rw [HW.out, World.drewN_drewN]⟩
      case measure => simp [intOf]; omega
    · obtain rfl : k = n := by omega
      have e1 : wr.cell? ⟨g, k * 2, none⟩ = some (.string ⟨#[35, 109, 97, 114, 107]⟩) := by rw [HW.out]; exact z0
      clear z0
      go_wp2
      go_ret
      exact ⟨rfl, q, HW.out⟩

end Go.Proofs.Ytlpafgjgoheomaa
